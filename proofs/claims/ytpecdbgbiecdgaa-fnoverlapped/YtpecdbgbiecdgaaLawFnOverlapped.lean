/- FnOverlapped, walked: it answers true. -/
import Derived.Test.YtpecdbgbiecdgaaDrawTwo
import Derived.Test.YtpecdbgbiecdgaaOverSpec
import Derived.Test.YtpecdbgbiecdgaaOverTop
namespace Go.Proofs.Ytpecdbgbiecdgaa
open Go.RowKit
open Go.Lib (hid)

/-- Two spans that are in nobody's way. -/
def goodP (l h : List Nat) (i k : Nat) : Prop := ∀ (hi : i < l.length) (hk : k < h.length), nanB l[i] = false ∧ nanB h[k] = false ∧ ¬ FloatKind.f64.format.order l[i] h[k] = some .gt

set_option maxRecDepth 20000 in
set_option maxHeartbeats 8000000 in
theorem law_fnoverlapped (w : World) (q : Option Addr) (n c : Nat) (hq : TBytes w q n) :
    Calls Try.prog 11 #[.slice q n c] w fun e w' => e = .returned (.bool true) ∧ Below w.heap.size w w' := by
  have HQ := hid hq
  clear hq
  by_cases hn : n ≤ 1048576
  · have hd : decide ((n : Int) > 1048576) = false := decide_eq_false (by omega)
    have CB := hid (fun W => big_callsF q n c W)
    rw [hd] at CB
    clear hd
    go_enter Try.func11, Try.ntmps11
    go_wp2_with (go_at_call 30; refine (CB.out _).mono ?_; rintro e wq ⟨rfl, eq⟩; rw [eq]; clear eq wq; refine Hid.out ?_)
    refine hid ?_
    go_wp2_with (go_at_call 52; refine (drawn_overlap _ q n c hn HQ.out).mono ?_; rintro e w1 ⟨v1, v2, l, h, rfl, hl1, hl2, hr1, hr2, hb1⟩; refine Hid.out ?_)
    refine hid ?_
    have HB1 := hid hb1
    have HA1 := hid hr1
    have HH1 := hid hr2
    clear hb1 hr1 hr2 CB HQ
    go_wp2_with (go_at_call 53; refine (over_spec l h (by omega) (by omega) _ _ _ HA1.out HH1.out).mono ?_; unfold OvPost; rintro e w2 ⟨rfl, hb2⟩; refine Hid.out ?_)
    refine hid ?_
    have HB2 := hid (HB1.out.trans (hb2.mono HB1.out.size))
    have HA2 := hid (HA1.out.on hb2)
    have HH2 := hid (HH1.out.on hb2)
    clear hb2 HB1 HA1 HH1
    go_wp2_with (go_at_call 54; refine (over_impl l h (by omega) (by omega) _ _ _ HA2.out HH2.out).mono ?_; unfold OvPost; rintro e w3 ⟨rfl, hb3⟩; refine Hid.out ?_)
    refine hid ?_
    have HB3 := hid (HB2.out.trans (hb3.mono HB2.out.size))
    have HA3 := hid (HA2.out.on hb3)
    have HH3 := hid (HH2.out.on hb3)
    clear hb3 HB2 HA2 HH2
    obtain ⟨p, cp, rfl, _, hp⟩ := HA3.out
    obtain ⟨q2, cq, rfl, _, hq2⟩ := HH3.out
    have HP := hid hp
    have HQ2 := hid hq2
    clear hp hq2 HA3 HH3
    cases hb : ovB l h with
    | true =>
      obtain ⟨⟨s1, s2, s3⟩, _⟩ := ov_parts hb
      have HS := hid s3
      have HI := hid (fun i hi hi2 => ov_in hb (i := i) hi hi2)
      have HL := hid (ov_in hb (i := 0) (by omega) (by omega)).2.2
      rw [(ov_some hb).1, (ov_some hb).2]
      clear hb s3
      obtain ⟨g, o, rfl, hg, hc⟩ := HP.out (fun k => by rw [k] at s1; simp at s1)
      obtain ⟨g2, o2, rfl, hg2, hc2⟩ := HQ2.out (fun k => by have := HS.out; rw [k] at this; simp at this; omega)
      have HC := hid hc
      have HC2 := hid hc2
      clear hc hc2
      go_wp2
      go_loopw [11] (fun iv wr => ∃ i : Nat, i ≤ l.length ∧ iv = .int .i64 i ∧ wr = w3) (fun iv _ => l.length - (RowKit.intOf iv).toNat)
      case atStart => exact ⟨0, Nat.zero_le _, rfl, rfl⟩
      case round =>
        obtain ⟨i, hi, rfl, rfl⟩ := hrel
        by_cases hlt : i < l.length
        · have hlt2 : i < h.length := by have := HS.out; omega
          have b1 : (0 : Int) ≤ (i : Int) := by omega
          have b2 : (i : Int) < (l.length : Int) := by omega
          have b3 : (i : Int) < (h.length : Int) := by omega
          have k1 := HC.out i hlt
          have k2 := HC2.out i hlt2
          obtain ⟨e1, e2, _⟩ := HI.out i hlt hlt2
          unfold leB at e1 e2
          generalize l[i] = x at *
          generalize h[i] = y at *
          generalize mx l l.length = m at *
          generalize mn h h.length = z at *
          go_wp2
          go_roundw
          case rel => exact ⟨i + 1, by omega, by go_num, trivial⟩
          case measure => simp [RowKit.intOf]; omega
        · have e3 := HL.out
          unfold leB at e3
          have hie : i = l.length := by omega
          subst hie
          go_wp2
          go_ret
          exact ⟨rfl, HB3.out⟩
    | false =>
      have HN := hid hb
      rw [(ov_none hb).1, (ov_none hb).2]
      clear hb
      by_cases hs : 1 ≤ l.length ∧ l.length ≤ 100 ∧ h.length = l.length
      · have HALL := hid (fun H => ov_all (l := l) (h := h) hs H)
        obtain ⟨s1, s2, s3⟩ := hs
        have HS := hid s3
        have t1 : ¬ (l.length : Int) < 1 := by omega
        have t3 : ((h.length : Int) != (l.length : Int)) = false := by rw [s3]; simp
        clear s3
        obtain ⟨g, o, rfl, hg, hc⟩ := HP.out (fun k => by rw [k] at s1; simp at s1)
        obtain ⟨g2, o2, rfl, hg2, hc2⟩ := HQ2.out (fun k => by have := HS.out; rw [k] at this; simp at this; omega)
        have HC := hid hc
        have HC2 := hid hc2
        clear hc hc2
        go_wp2
        go_loopw [12] (fun iv wr => ∃ i : Nat, i ≤ l.length ∧ iv = .int .i64 i ∧ Hid (Below w3.heap.size w3 wr) ∧ Hid (∀ j k, k < h.length → j < i → goodP l h j k)) (fun iv _ => l.length - (RowKit.intOf iv).toNat)
        case atStart => exact ⟨0, Nat.zero_le _, rfl, hid (Below.refl _ _), hid (fun j k _ h => absurd h (Nat.not_lt_zero _))⟩
        case round =>
          obtain ⟨i, hi, rfl, HB, HR⟩ := hrel
          by_cases hlt : i < l.length
          · go_wp2
            go_loopw [13] (fun kv ws => ∃ k : Nat, k ≤ l.length ∧ kv = .int .i64 k ∧ Hid (Below w3.heap.size w3 ws) ∧ Hid (∀ m, m < k → goodP l h i m)) (fun kv _ => l.length - (RowKit.intOf kv).toNat)
            case atStart => exact ⟨0, Nat.zero_le _, rfl, HB, hid (fun m h => absurd h (Nat.not_lt_zero _))⟩
            case round =>
              obtain ⟨k, hk, rfl, HB4, HK⟩ := hrel
              by_cases hlk : k < l.length
              · have hlk2 : k < h.length := by have := HS.out; omega
                have b1 : (0 : Int) ≤ (i : Int) := by omega
                have b2 : (i : Int) < (l.length : Int) := by omega
                have b3 : (0 : Int) ≤ (k : Int) := by omega
                have b4 : (k : Int) < (l.length : Int) := by omega
                have b5 : (k : Int) < (h.length : Int) := by omega
                have k1 : wr.cell? ⟨g, o + i, none⟩ = some (.float .f64 l[i]) := (HB4.out.cell (p := ⟨g, o + i, none⟩) hg).trans (HC.out i hlt)
                have k2 : wr.cell? ⟨g2, o2 + k, none⟩ = some (.float .f64 h[k]) := (HB4.out.cell (p := ⟨g2, o2 + k, none⟩) hg2).trans (HC2.out k hlk2)
                cases q1 : (FloatKind.f64.format.order l[i] h[k] == some .gt) with
                | true =>
                  generalize l[i] = x at *
                  generalize h[k] = y at *
                  go_wp2
                  go_quiet (fail)
                  go_wp2
                  go_ret
                  exact ⟨rfl, drewN_below (HB3.out.trans (HB4.out.mono HB3.out.size)) _⟩
                | false =>
                  cases q2 : nanB l[i] with
                  | true =>
                    have e1 : (FloatKind.f64.format.order l[i] l[i] != some .eq) = true := by rw [ord_nan q2 l[i]]; rfl
                    generalize l[i] = x at *
                    generalize h[k] = y at *
                    go_wp2
                    go_quiet (fail)
                    go_wp2
                    go_ret
                    exact ⟨rfl, drewN_below (HB3.out.trans (HB4.out.mono HB3.out.size)) _⟩
                  | false =>
                    have e1 : (FloatKind.f64.format.order l[i] l[i] != some .eq) = false := by rw [ord_self q2]; rfl
                    cases q3 : nanB h[k] with
                    | true =>
                      have e2 : (FloatKind.f64.format.order h[k] h[k] != some .eq) = true := by rw [ord_nan q3 h[k]]; rfl
                      generalize l[i] = x at *
                      generalize h[k] = y at *
                      go_wp2
                      go_quiet (fail)
                      go_wp2
                      go_ret
                      exact ⟨rfl, drewN_below (HB3.out.trans (HB4.out.mono HB3.out.size)) _⟩
                    | false =>
                      have e2 : (FloatKind.f64.format.order h[k] h[k] != some .eq) = false := by rw [ord_self q3]; rfl
                      have Q : Hid (goodP l h i k) := hid (fun _ _ => ⟨q2, q3, by simpa using q1⟩)
                      have HK2 : Hid (∀ m, m < k + 1 → goodP l h i m) := hid (fun m hmk => (Nat.lt_or_ge m k).elim (fun h => HK.out m h) (fun h => by have e : m = k := (by omega); subst e; exact Q.out))
                      clear HK Q q2 q3
                      generalize l[i] = x at *
                      generalize h[k] = y at *
                      go_wp2
                      go_quiet (fail)
                      go_wp2
                      go_roundw
                      case rel => exact ⟨k + 1, by omega, by go_num, hid (drewN_below HB4.out _), HK2⟩
                      case measure => simp [RowKit.intOf]; omega
              · have hke : k = l.length := by omega
                subst hke
                have HR2 : Hid (∀ j k, k < h.length → j < i + 1 → goodP l h j k) := hid (fun j k hk hji => (Nat.lt_or_ge j i).elim (fun h => HR.out j k hk h) (fun h => by have e : j = i := (by omega); subst e; exact HK.out k (by have := HS.out; omega)))
                go_wp2
                go_roundw
                case rel => exact ⟨i + 1, by omega, by go_num, HB4, HR2⟩
                case measure => simp [RowKit.intOf]; omega
          · exfalso
            have := HALL.out (fun j k hj hk => HR.out j k hk (by omega) hj hk)
            rw [HN.out] at this
            cases this
      · by_cases s1 : 1 ≤ l.length
        · have t1 : ¬ (l.length : Int) < 1 := by omega
          by_cases s2 : l.length ≤ 100
          · have t3 : ((h.length : Int) != (l.length : Int)) = true := by
              have : h.length ≠ l.length := fun k => hs ⟨s1, s2, k⟩
              simp
              omega
            clear hs
            go_wp2
            go_ret
            exact ⟨rfl, HB3.out⟩
          · omega
        · have t1 : (l.length : Int) < 1 := by omega
          clear hs
          go_wp2
          go_ret
          exact ⟨rfl, HB3.out⟩
  · have hd : decide ((n : Int) > 1048576) = true := decide_eq_true (by omega)
    go_enter Try.func11, Try.ntmps11
    go_wp2_with (go_at_call 30; refine (big_callsF q n c _).mono ?_; rintro e wq ⟨rfl, eq⟩; rw [eq, hd]; clear eq wq)
    go_ret
    exact ⟨rfl, Below.refl _ _⟩
end Go.Proofs.Ytpecdbgbiecdgaa
