/- Whether a quote falls behind: the specification's l19Falls. -/
import Derived.Test.YtedmancgpjpecaaAudFall
import Derived.Test.YtedmancgpjpecaaAudSpec
namespace Go.Proofs.Ytedmancgpjpecaa
open Go.RowKit
open Go.Lib (hid)

theorem take_some {es : List FactD} {i k : Nat} (hk : k < i) (h : k < es.length) : ((es.map (·.v)).take i)[k]? = some (es[k]'h).v := by
  rw [List.getElem?_take, if_pos hk, List.getElem?_map, List.getElem?_eq_getElem h]
  rfl

theorem ans_up (c : Claim) (f : FactV) (l : List FactV) (k : Nat) (h : ansFrom c f l k = true) : ansFrom c f l 0 = true := by
  induction k with
  | zero => exact h
  | succ k ih =>
    by_cases hk : k < l.length
    · exact ih (by rw [ansFrom_step c f l k hk, h, Bool.or_true])
    · exfalso
      unfold ansFrom at h
      rw [show l.length - (k + 1) = 0 by omega] at h
      cases h

set_option maxRecDepth 20000 in
set_option maxHeartbeats 8000000 in
theorem falls_spec (es : List FactD) (hn : es.length ≤ 300) (i : Nat) (hi : i < es.length) (av : Value) (w : World) (hav : FactsAt w av es) :
    Calls Try.prog 48 #[av, .int .i64 (i : Int)] w fun e w' => e = .returned (.bool (ansFrom fallC es[i].v ((es.map (·.v)).take i) 0)) ∧ Below w.heap.size w w' := by
  obtain ⟨⟨p, c, rfl, _, hr⟩, _⟩ := hav
  obtain ⟨g, o, rfl, hg, hc⟩ := hr (fun h => by rw [h] at hi; simp at hi)
  obtain ⟨T, hT⟩ : ∃ T, T = (es.map (·.v)).take i := ⟨_, rfl⟩
  have hTl : T.length = i := by rw [hT, List.length_take, List.length_map]; omega
  have HTL := hid hTl
  have HTK := hid (fun k (hk : k < i) (h : k < es.length) => (show T[k]? = some (es[k]'h).v by rw [hT]; exact take_some hk h))
  rw [← hT]
  have HC := hid hc
  clear hc hr hT hTl
  have hib : (0 : Int) ≤ (i : Int) := by omega
  have hib2 : (i : Int) < (es.length : Int) := by omega
  obtain ⟨fi, hei⟩ : ∃ d, es[i] = d := ⟨_, rfl⟩
  rw [hei]
  have HEI := hid hei
  clear hei
  go_enter Try.func48, Try.ntmps48
  go_wp2
  go_loopw [5, 6] (fun bv iv wr => ∃ m : Nat, ∃ z : Int, ∃ b : Bool, m ≤ i ∧ z = (m : Int) - 1 ∧ iv = .int .i64 z ∧ bv = .bool b ∧ Below w.heap.size w wr ∧ Hid (b = (T.drop m).any (startB fi.v)) ∧ Hid (ansFrom fallC fi.v T m = false)) (fun _ iv _ => (RowKit.intOf iv + 1).toNat)
  case atStart => exact ⟨i, _, false, Nat.le_refl _, by go_num, rfl, rfl, Below.refl _ _, hid (by rw [← HTL.out, List.drop_length]; rfl), hid (by rw [← HTL.out]; exact ansFrom_end _ _ _)⟩
  case round =>
    obtain ⟨m, z, b, hm, hz, rfl, rfl, hbel, HAG, HAN⟩ := hrel
    have HB := hid hbel
    cases m with
    | zero =>
      obtain rfl : z = -1 := by omega
      clear hbel hz
      go_wp2
      go_ret
      exact ⟨by first | rfl | (rw [HAN.out]; done) | (rw [HAN.out]; rfl), HB.out⟩
    | succ k =>
      obtain rfl : z = (k : Int) := by omega
      clear hz
      have hki : k < i := by omega
      have hkl : k < es.length := by omega
      have b1 : (0 : Int) ≤ (k : Int) := by omega
      have b2 : (k : Int) < (es.length : Int) := by omega
      have hei := HEI.out
      have hc := HC.out
      obtain ⟨fk, hek⟩ : ∃ d, es[k] = d := ⟨_, rfl⟩
      have htk : T[k]'(by rw [HTL.out]; exact hki) = es[k].v := by
        have h := HTK.out k hki hkl
        rw [List.getElem?_eq_getElem (by rw [HTL.out]; exact hki)] at h
        injection h
      rw [hek] at htk
      have HSTEP := hid (show ansFrom fallC fi.v T k = (fallsA fi.v fk.v (T.drop (k + 1)) || ansFrom fallC fi.v T (k + 1)) by
        rw [ansFrom_step fallC fi.v T k (by rw [HTL.out]; exact hki), htk]; rfl)
      have HAD := hid (show (T.drop k).any (startB fi.v) = (startB fi.v fk.v || (T.drop (k + 1)).any (startB fi.v)) by
        rw [List.drop_eq_getElem_cons (by rw [HTL.out]; exact hki), List.any_cons, htk])
      have x1 : wr.cell? ⟨g, o + i * 6 + 1, none⟩ = some (.int .i64 fi.v.place) := (hbel.cell (p := ⟨g, o + i * 6 + 1, none⟩) hg).trans ((hc i hi 1 (by decide)).trans (by rw [hei]; rfl))
      have x2 : wr.cell? ⟨g, o + i * 6 + 2, none⟩ = some (.int .i64 fi.v.number) := (hbel.cell (p := ⟨g, o + i * 6 + 2, none⟩) hg).trans ((hc i hi 2 (by decide)).trans (by rw [hei]; rfl))
      have y0 : wr.cell? ⟨g, o + k * 6, none⟩ = some (.int .i64 fk.v.kind) := (hbel.cell (p := ⟨g, o + k * 6, none⟩) hg).trans ((hc k hkl 0 (by decide)).trans (by rw [hek]; rfl))
      have y1 : wr.cell? ⟨g, o + k * 6 + 1, none⟩ = some (.int .i64 fk.v.place) := (hbel.cell (p := ⟨g, o + k * 6 + 1, none⟩) hg).trans ((hc k hkl 1 (by decide)).trans (by rw [hek]; rfl))
      have y2 : wr.cell? ⟨g, o + k * 6 + 2, none⟩ = some (.int .i64 fk.v.number) := (hbel.cell (p := ⟨g, o + k * 6 + 2, none⟩) hg).trans ((hc k hkl 2 (by decide)).trans (by rw [hek]; rfl))
      have y5 : wr.cell? ⟨g, o + k * 6 + 5, none⟩ = some (.bool fk.v.good) := (hbel.cell (p := ⟨g, o + k * 6 + 5, none⟩) hg).trans ((hc k hkl 5 (by decide)).trans (by rw [hek]; rfl))
      clear hei hek htk hc hbel
      cases hp : (fk.v.place == fi.v.place)
      case false =>
        have hne : (fk.v.place != fi.v.place) = true := by simp only [bne, hp]; rfl
        have HF0 := hid (show fallsA fi.v fk.v (T.drop (k + 1)) = false by show ((fk.v.kind == 5) && ((fk.v.place == fi.v.place) && (decide (fi.v.number < fk.v.number) || ((fi.v.number == fk.v.number) && (T.drop (k + 1)).any (startB fi.v))))) = _; rw [hp]; simp)
        have HS0 := hid (show startB fi.v fk.v = false by show ((fk.v.kind == 1) && (fk.v.place == fi.v.place) && fk.v.good) = _; rw [hp]; simp)
        go_wp2
        go_quiet (fail)
        go_wp2
        go_roundw
        case rel => exact ⟨k, _, b, by omega, by first | omega | go_num, rfl, rfl, by first | exact HB.out | exact drewN_below HB.out _ | exact drewN_below (drewN_below HB.out _) _, hid (by rw [HAD.out, HS0.out, ← HAG.out]; first | rfl | simp), hid (by rw [HSTEP.out, HF0.out, HAN.out]; rfl)⟩
        case measure => first | (simp [RowKit.intOf]; done) | (simp [RowKit.intOf]; omega)
      case true =>
        have hne : (fk.v.place != fi.v.place) = false := by simp only [bne, hp]; rfl
        cases h5 : (fk.v.kind == 5)
        case false =>
          cases h1 : (fk.v.kind == 1)
          case false =>
            cases b
            case false =>
              have HF0 := hid (show fallsA fi.v fk.v (T.drop (k + 1)) = false by show ((fk.v.kind == 5) && ((fk.v.place == fi.v.place) && (decide (fi.v.number < fk.v.number) || ((fi.v.number == fk.v.number) && (T.drop (k + 1)).any (startB fi.v))))) = _; rw [h5]; rfl)
              have HS0 := hid (show startB fi.v fk.v = false by show ((fk.v.kind == 1) && (fk.v.place == fi.v.place) && fk.v.good) = _; rw [h1]; rfl)
              go_wp2
              go_quiet (fail)
              go_wp2
              go_quiet (fail)
              go_wp2
              go_roundw
              case rel => exact ⟨k, _, false, by omega, by first | omega | go_num, rfl, rfl, by first | exact HB.out | exact drewN_below HB.out _ | exact drewN_below (drewN_below HB.out _) _, hid (by rw [HAD.out, HS0.out, ← HAG.out]; first | rfl | simp), hid (by rw [HSTEP.out, HF0.out, HAN.out]; rfl)⟩
              case measure => first | (simp [RowKit.intOf]; done) | (simp [RowKit.intOf]; omega)
            case true =>
              have HF0 := hid (show fallsA fi.v fk.v (T.drop (k + 1)) = false by show ((fk.v.kind == 5) && ((fk.v.place == fi.v.place) && (decide (fi.v.number < fk.v.number) || ((fi.v.number == fk.v.number) && (T.drop (k + 1)).any (startB fi.v))))) = _; rw [h5]; rfl)
              have HS0 := hid (show startB fi.v fk.v = false by show ((fk.v.kind == 1) && (fk.v.place == fi.v.place) && fk.v.good) = _; rw [h1]; rfl)
              go_wp2
              go_quiet (fail)
              go_wp2
              go_quiet (fail)
              go_wp2
              go_roundw
              case rel => exact ⟨k, _, true, by omega, by first | omega | go_num, rfl, rfl, by first | exact HB.out | exact drewN_below HB.out _ | exact drewN_below (drewN_below HB.out _) _, hid (by rw [HAD.out, HS0.out, ← HAG.out]; first | rfl | simp), hid (by rw [HSTEP.out, HF0.out, HAN.out]; rfl)⟩
              case measure => first | (simp [RowKit.intOf]; done) | (simp [RowKit.intOf]; omega)
          case true =>
            cases hgd : (fk.v.good)
            case false =>
              cases b
              case false =>
                have HF0 := hid (show fallsA fi.v fk.v (T.drop (k + 1)) = false by show ((fk.v.kind == 5) && ((fk.v.place == fi.v.place) && (decide (fi.v.number < fk.v.number) || ((fi.v.number == fk.v.number) && (T.drop (k + 1)).any (startB fi.v))))) = _; rw [h5]; rfl)
                have HS0 := hid (show startB fi.v fk.v = false by show ((fk.v.kind == 1) && (fk.v.place == fi.v.place) && fk.v.good) = _; rw [h1, hp, hgd]; rfl)
                go_wp2
                go_quiet (fail)
                go_wp2
                go_quiet (fail)
                go_wp2
                go_roundw
                case rel => exact ⟨k, _, false, by omega, by first | omega | go_num, rfl, rfl, by first | exact HB.out | exact drewN_below HB.out _ | exact drewN_below (drewN_below HB.out _) _, hid (by rw [HAD.out, HS0.out, ← HAG.out]; first | rfl | simp), hid (by rw [HSTEP.out, HF0.out, HAN.out]; rfl)⟩
                case measure => first | (simp [RowKit.intOf]; done) | (simp [RowKit.intOf]; omega)
              case true =>
                have HF0 := hid (show fallsA fi.v fk.v (T.drop (k + 1)) = false by show ((fk.v.kind == 5) && ((fk.v.place == fi.v.place) && (decide (fi.v.number < fk.v.number) || ((fi.v.number == fk.v.number) && (T.drop (k + 1)).any (startB fi.v))))) = _; rw [h5]; rfl)
                have HS0 := hid (show startB fi.v fk.v = false by show ((fk.v.kind == 1) && (fk.v.place == fi.v.place) && fk.v.good) = _; rw [h1, hp, hgd]; rfl)
                go_wp2
                go_quiet (fail)
                go_wp2
                go_quiet (fail)
                go_wp2
                go_roundw
                case rel => exact ⟨k, _, true, by omega, by first | omega | go_num, rfl, rfl, by first | exact HB.out | exact drewN_below HB.out _ | exact drewN_below (drewN_below HB.out _) _, hid (by rw [HAD.out, HS0.out, ← HAG.out]; first | rfl | simp), hid (by rw [HSTEP.out, HF0.out, HAN.out]; rfl)⟩
                case measure => first | (simp [RowKit.intOf]; done) | (simp [RowKit.intOf]; omega)
            case true =>
              cases b
              case false =>
                have HF0 := hid (show fallsA fi.v fk.v (T.drop (k + 1)) = false by show ((fk.v.kind == 5) && ((fk.v.place == fi.v.place) && (decide (fi.v.number < fk.v.number) || ((fi.v.number == fk.v.number) && (T.drop (k + 1)).any (startB fi.v))))) = _; rw [h5]; rfl)
                have HS0 := hid (show startB fi.v fk.v = true by show ((fk.v.kind == 1) && (fk.v.place == fi.v.place) && fk.v.good) = _; rw [h1, hp, hgd]; rfl)
                go_wp2
                go_quiet (fail)
                go_wp2
                go_quiet (fail)
                go_wp2
                go_roundw
                case rel => exact ⟨k, _, true, by omega, by first | omega | go_num, rfl, rfl, by first | exact HB.out | exact drewN_below HB.out _ | exact drewN_below (drewN_below HB.out _) _, hid (by rw [HAD.out, HS0.out, ← HAG.out]; first | rfl | simp), hid (by rw [HSTEP.out, HF0.out, HAN.out]; rfl)⟩
                case measure => first | (simp [RowKit.intOf]; done) | (simp [RowKit.intOf]; omega)
              case true =>
                have HF0 := hid (show fallsA fi.v fk.v (T.drop (k + 1)) = false by show ((fk.v.kind == 5) && ((fk.v.place == fi.v.place) && (decide (fi.v.number < fk.v.number) || ((fi.v.number == fk.v.number) && (T.drop (k + 1)).any (startB fi.v))))) = _; rw [h5]; rfl)
                have HS0 := hid (show startB fi.v fk.v = true by show ((fk.v.kind == 1) && (fk.v.place == fi.v.place) && fk.v.good) = _; rw [h1, hp, hgd]; rfl)
                go_wp2
                go_quiet (fail)
                go_wp2
                go_quiet (fail)
                go_wp2
                go_roundw
                case rel => exact ⟨k, _, true, by omega, by first | omega | go_num, rfl, rfl, by first | exact HB.out | exact drewN_below HB.out _ | exact drewN_below (drewN_below HB.out _) _, hid (by rw [HAD.out, HS0.out, ← HAG.out]; first | rfl | simp), hid (by rw [HSTEP.out, HF0.out, HAN.out]; rfl)⟩
                case measure => first | (simp [RowKit.intOf]; done) | (simp [RowKit.intOf]; omega)
        case true =>
          have h1 : (fk.v.kind == 1) = false := by
            have e5 : fk.v.kind = 5 := by simpa using h5
            rw [e5]; rfl
          cases hl : (decide (fi.v.number < fk.v.number))
          case false =>
            cases hq : (fi.v.number == fk.v.number)
            case false =>
              cases b
              case false =>
                have HF0 := hid (show fallsA fi.v fk.v (T.drop (k + 1)) = false by show ((fk.v.kind == 5) && ((fk.v.place == fi.v.place) && (decide (fi.v.number < fk.v.number) || ((fi.v.number == fk.v.number) && (T.drop (k + 1)).any (startB fi.v))))) = _; rw [h5, hp, hl, hq]; rfl)
                have HS0 := hid (show startB fi.v fk.v = false by show ((fk.v.kind == 1) && (fk.v.place == fi.v.place) && fk.v.good) = _; rw [h1]; rfl)
                go_wp2
                go_quiet (fail)
                go_wp2
                go_quiet (fail)
                go_wp2
                go_roundw
                case rel => exact ⟨k, _, false, by omega, by first | omega | go_num, rfl, rfl, by first | exact HB.out | exact drewN_below HB.out _ | exact drewN_below (drewN_below HB.out _) _, hid (by rw [HAD.out, HS0.out, ← HAG.out]; first | rfl | simp), hid (by rw [HSTEP.out, HF0.out, HAN.out]; rfl)⟩
                case measure => first | (simp [RowKit.intOf]; done) | (simp [RowKit.intOf]; omega)
              case true =>
                have HF0 := hid (show fallsA fi.v fk.v (T.drop (k + 1)) = false by show ((fk.v.kind == 5) && ((fk.v.place == fi.v.place) && (decide (fi.v.number < fk.v.number) || ((fi.v.number == fk.v.number) && (T.drop (k + 1)).any (startB fi.v))))) = _; rw [h5, hp, hl, hq]; rfl)
                have HS0 := hid (show startB fi.v fk.v = false by show ((fk.v.kind == 1) && (fk.v.place == fi.v.place) && fk.v.good) = _; rw [h1]; rfl)
                go_wp2
                go_quiet (fail)
                go_wp2
                go_quiet (fail)
                go_wp2
                go_roundw
                case rel => exact ⟨k, _, true, by omega, by first | omega | go_num, rfl, rfl, by first | exact HB.out | exact drewN_below HB.out _ | exact drewN_below (drewN_below HB.out _) _, hid (by rw [HAD.out, HS0.out, ← HAG.out]; first | rfl | simp), hid (by rw [HSTEP.out, HF0.out, HAN.out]; rfl)⟩
                case measure => first | (simp [RowKit.intOf]; done) | (simp [RowKit.intOf]; omega)
            case true =>
              cases b
              case false =>
                have HF0 := hid (show fallsA fi.v fk.v (T.drop (k + 1)) = false by show ((fk.v.kind == 5) && ((fk.v.place == fi.v.place) && (decide (fi.v.number < fk.v.number) || ((fi.v.number == fk.v.number) && (T.drop (k + 1)).any (startB fi.v))))) = _; rw [h5, hp, hl, hq, ← HAG.out]; rfl)
                have HS0 := hid (show startB fi.v fk.v = false by show ((fk.v.kind == 1) && (fk.v.place == fi.v.place) && fk.v.good) = _; rw [h1]; rfl)
                go_wp2
                go_quiet (fail)
                go_wp2
                go_quiet (fail)
                go_wp2
                go_roundw
                case rel => exact ⟨k, _, false, by omega, by first | omega | go_num, rfl, rfl, by first | exact HB.out | exact drewN_below HB.out _ | exact drewN_below (drewN_below HB.out _) _, hid (by rw [HAD.out, HS0.out, ← HAG.out]; first | rfl | simp), hid (by rw [HSTEP.out, HF0.out, HAN.out]; rfl)⟩
                case measure => first | (simp [RowKit.intOf]; done) | (simp [RowKit.intOf]; omega)
              case true =>
                have HF0 := hid (show fallsA fi.v fk.v (T.drop (k + 1)) = true by show ((fk.v.kind == 5) && ((fk.v.place == fi.v.place) && (decide (fi.v.number < fk.v.number) || ((fi.v.number == fk.v.number) && (T.drop (k + 1)).any (startB fi.v))))) = _; rw [h5, hp, hl, hq, ← HAG.out]; rfl)
                have HR := hid (ans_up fallC fi.v T k (by rw [HSTEP.out, HF0.out]; rfl))
                go_wp2
                go_quiet (fail)
                go_wp2
                go_quiet (fail)
                go_wp2
                go_ret
                exact ⟨by first | rfl | (rw [HR.out]; done) | (rw [HR.out]; rfl), by first | exact HB.out | exact drewN_below HB.out _ | exact drewN_below (drewN_below HB.out _) _⟩
          case true =>
            cases b
            case false =>
              have HF0 := hid (show fallsA fi.v fk.v (T.drop (k + 1)) = true by show ((fk.v.kind == 5) && ((fk.v.place == fi.v.place) && (decide (fi.v.number < fk.v.number) || ((fi.v.number == fk.v.number) && (T.drop (k + 1)).any (startB fi.v))))) = _; rw [h5, hp, hl]; rfl)
              have HR := hid (ans_up fallC fi.v T k (by rw [HSTEP.out, HF0.out]; rfl))
              go_wp2
              go_quiet (fail)
              go_wp2
              go_quiet (fail)
              go_wp2
              go_ret
              exact ⟨by first | rfl | (rw [HR.out]; done) | (rw [HR.out]; rfl), by first | exact HB.out | exact drewN_below HB.out _ | exact drewN_below (drewN_below HB.out _) _⟩
            case true =>
              have HF0 := hid (show fallsA fi.v fk.v (T.drop (k + 1)) = true by show ((fk.v.kind == 5) && ((fk.v.place == fi.v.place) && (decide (fi.v.number < fk.v.number) || ((fi.v.number == fk.v.number) && (T.drop (k + 1)).any (startB fi.v))))) = _; rw [h5, hp, hl]; rfl)
              have HR := hid (ans_up fallC fi.v T k (by rw [HSTEP.out, HF0.out]; rfl))
              go_wp2
              go_quiet (fail)
              go_wp2
              go_quiet (fail)
              go_wp2
              go_ret
              exact ⟨by first | rfl | (rw [HR.out]; done) | (rw [HR.out]; rfl), by first | exact HB.out | exact drewN_below HB.out _ | exact drewN_below (drewN_below HB.out _) _⟩

def risingW (f : FactV) (ahead : List FactV) : Bool := (f.kind == 5) && ansFrom fallC f ahead 0

set_option maxRecDepth 20000 in
set_option maxHeartbeats 4000000 in
theorem rising_spec (es : List FactD) (hn : es.length ≤ 1048576) (av : Value) (w : World) (hav : FactsAt w av es) :
    Calls Try.prog 20 #[av] w fun e w' => (∃ r : Int, e = .returned (.int .i64 r) ∧ IsFirst (risingW) (es.map (·.v)) r) ∧ Below w.heap.size w w' := by
  have HAV := hid hav
  obtain ⟨⟨p, c, rfl, _, hr⟩, _⟩ := hav
  have HR := hid hr
  clear hr
  by_cases hmany : 300 < es.length
  · go_enter Try.func20, Try.ntmps20
    have hm : ¬ ((es.length : Int) ≤ 300) := by omega
    go_wp2
    go_loopw [3] (fun iv wr => iv = .int .i64 0 ∧ w = wr) (fun _ _ => 0)
    case atStart => exact ⟨rfl, by first | rfl | trivial⟩
    case round =>
      obtain ⟨rfl, rfl⟩ := hrel
      go_wp2
      go_ret
      exact ⟨⟨-1, rfl, Or.inl ⟨rfl, Or.inl (by simpa using hmany)⟩⟩, Below.refl _ _⟩
  have hfew : es.length ≤ 300 := by omega
  have hf2 : (es.length : Int) ≤ 300 := by omega
  go_enter Try.func20, Try.ntmps20
  go_wp2
  go_loopw [3] (fun iv wr => ∃ i : Nat, i ≤ es.length ∧ iv = .int .i64 i ∧ Below w.heap.size w wr ∧ Hid (∀ j (hj : j < (es.map (·.v)).length), j < i → (risingW) (es.map (·.v))[j] ((es.map (·.v)).take j) = false)) (fun iv _ => es.length - (RowKit.intOf iv).toNat)
  case atStart => exact ⟨0, Nat.zero_le _, rfl, Below.refl _ _, hid (fun j _ h => absurd h (by omega))⟩
  case round =>
    obtain ⟨i, hi, rfl, hbel, HNO⟩ := hrel
    have HB := hid hbel
    by_cases hlt : i < es.length
    · have hne : es ≠ [] := fun h => by rw [h] at hlt; cases hlt
      obtain ⟨g, o, rfl, hg, hc⟩ := HR.out hne
      have b1 : (0 : Int) ≤ (i : Int) := by omega
      have b2 : (i : Int) < (es.length : Int) := by omega
      obtain ⟨fi, hei⟩ : ∃ d, es[i] = d := ⟨_, rfl⟩
      have x0 : wr.cell? ⟨g, o + i * 6, none⟩ = some (.int .i64 fi.v.kind) := (hbel.cell (p := ⟨g, o + i * 6, none⟩) hg).trans ((hc i hlt 0 (by decide)).trans (by rw [hei]; rfl))
      have HKV := hid (show (es.map (·.v))[i]'(by simpa using hlt) = fi.v by simp [hei])
      obtain ⟨T, hT⟩ : ∃ T, T = (es.map (·.v)).take i := ⟨_, rfl⟩
      have HT := hid hT
      clear hc hbel
      cases h0 : (fi.v.kind == 5)
      case false =>
        have HW := hid (show (risingW) ((es.map (·.v))[i]'(by simpa using hlt)) ((es.map (·.v)).take i) = false by rw [HKV.out, ← HT.out]; show ((fi.v.kind == 5) && ansFrom fallC fi.v T 0) = _; rw [h0]; rfl)
        clear hei hT
        go_wp2
        go_roundw
        case rel => exact ⟨i + 1, by omega, by go_num, (by first | exact HB.out | exact drewN_below HB.out _), hid (fun j hj h => by
          by_cases hk : j = i
          · subst hk; exact HW.out
          · exact HNO.out j hj (by omega))⟩
        case measure => simp [RowKit.intOf]; omega
      case true =>
        have HC0 := hid (fun W (hW : Below w.heap.size w W) => falls_spec es hfew i hlt _ W (HAV.out.on hW))
        rw [hei, ← hT] at HC0
        cases h1 : (ansFrom fallC fi.v T 0)
        case false =>
          have HD0 := HC0
          rw [h1] at HD0
          have HW := hid (show (risingW) ((es.map (·.v))[i]'(by simpa using hlt)) ((es.map (·.v)).take i) = false by rw [HKV.out, ← HT.out]; show ((fi.v.kind == 5) && ansFrom fallC fi.v T 0) = _; rw [h0, h1]; rfl)
          clear hei hT
          go_wp2_with (go_at_call 48; refine (HD0.out _ HB.out).mono ?_; rintro e w1 ⟨rfl, hb1⟩; have HB1 := hid (HB.out.trans (hb1.mono HB.out.size)); clear hb1; refine Hid.out ?_)
          refine hid ?_
          go_wp2
          go_roundw
          case rel => exact ⟨i + 1, by omega, by go_num, (by first | exact HB1.out | exact drewN_below HB1.out _), hid (fun j hj h => by
            by_cases hk : j = i
            · subst hk; exact HW.out
            · exact HNO.out j hj (by omega))⟩
          case measure => simp [RowKit.intOf]; omega
        case true =>
          have HD0 := HC0
          rw [h1] at HD0
          have HW := hid (show (risingW) ((es.map (·.v))[i]'(by simpa using hlt)) ((es.map (·.v)).take i) = true by rw [HKV.out, ← HT.out]; show ((fi.v.kind == 5) && ansFrom fallC fi.v T 0) = _; rw [h0, h1]; rfl)
          clear hei hT
          go_wp2_with (go_at_call 48; refine (HD0.out _ HB.out).mono ?_; rintro e w1 ⟨rfl, hb1⟩; have HB1 := hid (HB.out.trans (hb1.mono HB.out.size)); clear hb1; refine Hid.out ?_)
          refine hid ?_
          go_wp2
          go_ret
          exact ⟨⟨(i : Int), rfl, Or.inr ⟨by simpa using hfew, i, by simpa using hlt, rfl, HW.out, fun j hj => HNO.out j (by rw [List.length_map]; omega) hj⟩⟩, (by first | exact HB1.out | exact drewN_below HB1.out _)⟩
    · have hie : i = es.length := by omega
      subst hie
      clear hbel
      go_wp2
      go_ret
      exact ⟨⟨-1, rfl, Or.inl ⟨rfl, Or.inr fun j hj => HNO.out j hj (by simpa using hj)⟩⟩, HB.out⟩

theorem rising_same (f : FactV) (l : List FactV) : wrongB [fallC] f l = risingW f l := by
  have h : wrongB [fallC] f l = badC fallC f l := by simp [wrongB]
  rw [h]
  show (([5] : List Int).contains f.kind && (ansFrom fallC f l 0 != false)) = ((f.kind == 5) && ansFrom fallC f l 0)
  have hk : ([5] : List Int).contains f.kind = (f.kind == 5) := by simp; rfl
  rw [hk]
  cases ansFrom fallC f l 0 <;> rfl
end Go.Proofs.Ytedmancgpjpecaa
