/- The specification's audits: what stands ahead, and the first place that is wrong. -/
import Derived.Test.YtedmancgpjpecaaAudFirst
import Derived.Deep.QuietTactic
import Derived.BigQuiet
namespace Go.Proofs.Ytedmancgpjpecaa
open Go.RowKit
open Go.Lib (hid)

/-- Is there one ahead that answers? -/
def anyB (P : FactV → FactV → Bool) (f : FactV) (ahead : List FactV) : Bool := ahead.any (P f)

def sameT (kind : Int) (f o : FactV) : Bool := (o.kind == kind) && (o.text.toList == f.text.toList)
def goodT (f o : FactV) : Bool := (o.kind == 6) && o.good && (o.text.toList == f.text.toList) && (o.number == f.number)

theorem any_step (P : FactV → FactV → Bool) (f : FactV) (l : List FactV) (i k : Nat) (hk : k < i) (hi : i ≤ l.length) : (((l.take i).drop k).any (P f)) = (P f (l[k]'(by omega)) || ((l.take i).drop (k + 1)).any (P f)) := by
  rw [List.drop_eq_getElem_cons (by rw [List.length_take]; omega), List.any_cons, List.getElem_take]

theorem any_end (P : FactV → FactV → Bool) (f : FactV) (l : List FactV) (i : Nat) : (((l.take i).drop i).any (P f)) = false := by
  rw [List.drop_of_length_le (by rw [List.length_take]; omega)]; rfl

theorem row_cell {w : World} {g o : Nat} {es : List FactD} (hc : ∀ i (hi : i < es.length), ∀ j, j < 6 → w.cell? ⟨g, o + i * 6 + j, none⟩ = (encFact es[i])[j]?) (i : Nat) (hi : i < es.length) (j : Nat) (hj : j < 6) : w.cell? ⟨g, o + i * 6 + j, none⟩ = (encFact es[i])[j]? := hc i hi j hj

set_option maxRecDepth 20000 in
set_option maxHeartbeats 4000000 in
theorem ahead_spec (es : List FactD) (hn : es.length ≤ 300) (i : Nat) (hi : i < es.length) (kind : Int) (av : Value) (w : World) (hav : FactsAt w av es) :
    Calls Try.prog 35 #[av, .int .i64 (i : Int), .int .i64 kind] w fun e w' => e = .returned (.bool (anyB (sameT kind) es[i].v ((es.map (·.v)).take i))) ∧ Below w.heap.size w w' := by
  obtain ⟨⟨p, c, rfl, _, hr⟩, _⟩ := hav
  obtain ⟨g, o, rfl, hg, hc⟩ := hr (fun h => by rw [h] at hi; simp at hi)
  obtain ⟨R, hR⟩ : ∃ R, R = anyB (sameT kind) es[i].v ((es.map (·.v)).take i) := ⟨_, rfl⟩
  rw [← hR]
  have HSTEP := hid (fun k (hk : k < i) => any_step (sameT kind) es[i].v (es.map (·.v)) i k hk (by rw [List.length_map]; omega))
  have HEND := hid (any_end (sameT kind) es[i].v (es.map (·.v)) i)
  have HKV := hid (fun k (hk : k < es.length) => (show (es.map (·.v))[k]'(by simpa using hk) = es[k].v by simp))
  have HR0 := hid (show R = (((es.map (·.v)).take i).drop 0).any ((sameT kind) es[i].v) by rw [hR]; rfl)
  clear hR
  have HC := hid hc
  clear hc
  have hib : (0 : Int) ≤ (i : Int) := by omega
  have hib2 : (i : Int) < (es.length : Int) := by omega
  go_enter Try.func35, Try.ntmps35
  go_wp2
  go_loopw [7] (fun iv wr => ∃ k : Nat, k ≤ i ∧ iv = .int .i64 k ∧ Below w.heap.size w wr ∧ Hid (R = (((es.map (·.v)).take i).drop k).any ((sameT kind) es[i].v))) (fun iv _ => i - (RowKit.intOf iv).toNat)
  case atStart => exact ⟨0, Nat.zero_le _, rfl, Below.refl _ _, HR0⟩
  case round =>
    obtain ⟨k, hk, rfl, hbel, HK⟩ := hrel
    have HB := hid hbel
    by_cases hlt : k < i
    · have hkl : k < es.length := by omega
      have b1 : (0 : Int) ≤ (k : Int) := by omega
      have b2 : (k : Int) < (es.length : Int) := by omega
      have hst := HSTEP.out k hlt
      rw [HKV.out k hkl] at hst
      have hc := HC.out
      have hkR := HK.out
      rw [hst] at hkR
      obtain ⟨fi, hei⟩ : ∃ d, es[i] = d := ⟨_, rfl⟩
      obtain ⟨fk, hek⟩ : ∃ d, es[k] = d := ⟨_, rfl⟩
      rw [hei, hek] at hkR
      have x3 : wr.cell? ⟨g, o + i * 6 + 3, none⟩ = some (.string fi.v.text) := (hbel.cell (p := ⟨g, o + i * 6 + 3, none⟩) hg).trans ((hc i hi 3 (by decide)).trans (by rw [hei]; rfl))
      have y0 : wr.cell? ⟨g, o + k * 6, none⟩ = some (.int .i64 fk.v.kind) := (hbel.cell (p := ⟨g, o + k * 6, none⟩) hg).trans ((hc k hkl 0 (by decide)).trans (by rw [hek]; rfl))
      have y3 : wr.cell? ⟨g, o + k * 6 + 3, none⟩ = some (.string fk.v.text) := (hbel.cell (p := ⟨g, o + k * 6 + 3, none⟩) hg).trans ((hc k hkl 3 (by decide)).trans (by rw [hek]; rfl))
      have HEI := hid hei
      have HKR := hid hkR
      clear hei hek hst hkR hc hbel
      cases hk : (fk.v.kind == kind)
      case false =>
        have HP := hid (show (sameT kind) fi.v fk.v = false by show ((fk.v.kind == kind) && (fk.v.text.toList == fi.v.text.toList)) = _; rw [hk]; simp)
        go_wp2
        go_quiet (fail)
        go_wp2
        go_roundw
        case rel => exact ⟨k + 1, by omega, by go_num, by first | exact HB.out | exact drewN_below HB.out _, hid (by rw [HKR.out, HP.out, HEI.out]; rfl)⟩
        case measure => simp [RowKit.intOf]; omega
      case true =>
        cases ht : (fk.v.text.toList == fi.v.text.toList)
        case false =>
          have HP := hid (show (sameT kind) fi.v fk.v = false by show ((fk.v.kind == kind) && (fk.v.text.toList == fi.v.text.toList)) = _; rw [hk, ht]; simp)
          go_wp2
          go_quiet (fail)
          go_wp2
          go_roundw
          case rel => exact ⟨k + 1, by omega, by go_num, by first | exact HB.out | exact drewN_below HB.out _, hid (by rw [HKR.out, HP.out, HEI.out]; rfl)⟩
          case measure => simp [RowKit.intOf]; omega
        case true =>
          have HP := hid (show (sameT kind) fi.v fk.v = true by show ((fk.v.kind == kind) && (fk.v.text.toList == fi.v.text.toList)) = _; rw [hk, ht]; rfl)
          go_wp2
          go_quiet (fail)
          go_wp2
          go_ret
          refine ⟨?_, by first | exact HB.out | exact drewN_below HB.out _⟩
          rw [HKR.out, HP.out]; rfl
    · have hie : k = i := by omega
      subst hie
      clear hbel
      go_wp2
      go_ret
      exact ⟨by rw [HK.out, HEND.out]; rfl, by first | exact HB.out | exact drewN_below HB.out _⟩

set_option maxRecDepth 20000 in
set_option maxHeartbeats 4000000 in
theorem found_spec (es : List FactD) (hn : es.length ≤ 300) (i : Nat) (hi : i < es.length) (av : Value) (w : World) (hav : FactsAt w av es) :
    Calls Try.prog 50 #[av, .int .i64 (i : Int)] w fun e w' => e = .returned (.bool (anyB (goodT) es[i].v ((es.map (·.v)).take i))) ∧ Below w.heap.size w w' := by
  obtain ⟨⟨p, c, rfl, _, hr⟩, _⟩ := hav
  obtain ⟨g, o, rfl, hg, hc⟩ := hr (fun h => by rw [h] at hi; simp at hi)
  obtain ⟨R, hR⟩ : ∃ R, R = anyB (goodT) es[i].v ((es.map (·.v)).take i) := ⟨_, rfl⟩
  rw [← hR]
  have HSTEP := hid (fun k (hk : k < i) => any_step (goodT) es[i].v (es.map (·.v)) i k hk (by rw [List.length_map]; omega))
  have HEND := hid (any_end (goodT) es[i].v (es.map (·.v)) i)
  have HKV := hid (fun k (hk : k < es.length) => (show (es.map (·.v))[k]'(by simpa using hk) = es[k].v by simp))
  have HR0 := hid (show R = (((es.map (·.v)).take i).drop 0).any ((goodT) es[i].v) by rw [hR]; rfl)
  clear hR
  have HC := hid hc
  clear hc
  have hib : (0 : Int) ≤ (i : Int) := by omega
  have hib2 : (i : Int) < (es.length : Int) := by omega
  go_enter Try.func50, Try.ntmps50
  go_wp2
  go_loopw [5] (fun iv wr => ∃ k : Nat, k ≤ i ∧ iv = .int .i64 k ∧ Below w.heap.size w wr ∧ Hid (R = (((es.map (·.v)).take i).drop k).any ((goodT) es[i].v))) (fun iv _ => i - (RowKit.intOf iv).toNat)
  case atStart => exact ⟨0, Nat.zero_le _, rfl, Below.refl _ _, HR0⟩
  case round =>
    obtain ⟨k, hk, rfl, hbel, HK⟩ := hrel
    have HB := hid hbel
    by_cases hlt : k < i
    · have hkl : k < es.length := by omega
      have b1 : (0 : Int) ≤ (k : Int) := by omega
      have b2 : (k : Int) < (es.length : Int) := by omega
      have hst := HSTEP.out k hlt
      rw [HKV.out k hkl] at hst
      have hc := HC.out
      have hkR := HK.out
      rw [hst] at hkR
      obtain ⟨fi, hei⟩ : ∃ d, es[i] = d := ⟨_, rfl⟩
      obtain ⟨fk, hek⟩ : ∃ d, es[k] = d := ⟨_, rfl⟩
      rw [hei, hek] at hkR
      have x2 : wr.cell? ⟨g, o + i * 6 + 2, none⟩ = some (.int .i64 fi.v.number) := (hbel.cell (p := ⟨g, o + i * 6 + 2, none⟩) hg).trans ((hc i hi 2 (by decide)).trans (by rw [hei]; rfl))
      have x3 : wr.cell? ⟨g, o + i * 6 + 3, none⟩ = some (.string fi.v.text) := (hbel.cell (p := ⟨g, o + i * 6 + 3, none⟩) hg).trans ((hc i hi 3 (by decide)).trans (by rw [hei]; rfl))
      have y0 : wr.cell? ⟨g, o + k * 6, none⟩ = some (.int .i64 fk.v.kind) := (hbel.cell (p := ⟨g, o + k * 6, none⟩) hg).trans ((hc k hkl 0 (by decide)).trans (by rw [hek]; rfl))
      have y2 : wr.cell? ⟨g, o + k * 6 + 2, none⟩ = some (.int .i64 fk.v.number) := (hbel.cell (p := ⟨g, o + k * 6 + 2, none⟩) hg).trans ((hc k hkl 2 (by decide)).trans (by rw [hek]; rfl))
      have y3 : wr.cell? ⟨g, o + k * 6 + 3, none⟩ = some (.string fk.v.text) := (hbel.cell (p := ⟨g, o + k * 6 + 3, none⟩) hg).trans ((hc k hkl 3 (by decide)).trans (by rw [hek]; rfl))
      have y5 : wr.cell? ⟨g, o + k * 6 + 5, none⟩ = some (.bool fk.v.good) := (hbel.cell (p := ⟨g, o + k * 6 + 5, none⟩) hg).trans ((hc k hkl 5 (by decide)).trans (by rw [hek]; rfl))
      have HEI := hid hei
      have HKR := hid hkR
      clear hei hek hst hkR hc hbel
      cases hk : (fk.v.kind == 6)
      case false =>
        have HP := hid (show (goodT) fi.v fk.v = false by show ((fk.v.kind == 6) && fk.v.good && (fk.v.text.toList == fi.v.text.toList) && (fk.v.number == fi.v.number)) = _; rw [hk]; simp)
        go_wp2
        go_quiet (fail)
        go_wp2
        go_roundw
        case rel => exact ⟨k + 1, by omega, by go_num, by first | exact HB.out | exact drewN_below HB.out _, hid (by rw [HKR.out, HP.out, HEI.out]; rfl)⟩
        case measure => simp [RowKit.intOf]; omega
      case true =>
        cases hg : (fk.v.good)
        case false =>
          have HP := hid (show (goodT) fi.v fk.v = false by show ((fk.v.kind == 6) && fk.v.good && (fk.v.text.toList == fi.v.text.toList) && (fk.v.number == fi.v.number)) = _; rw [hk, hg]; simp)
          go_wp2
          go_quiet (fail)
          go_wp2
          go_roundw
          case rel => exact ⟨k + 1, by omega, by go_num, by first | exact HB.out | exact drewN_below HB.out _, hid (by rw [HKR.out, HP.out, HEI.out]; rfl)⟩
          case measure => simp [RowKit.intOf]; omega
        case true =>
          cases ht : (fk.v.text.toList == fi.v.text.toList)
          case false =>
            have HP := hid (show (goodT) fi.v fk.v = false by show ((fk.v.kind == 6) && fk.v.good && (fk.v.text.toList == fi.v.text.toList) && (fk.v.number == fi.v.number)) = _; rw [hk, hg, ht]; simp)
            go_wp2
            go_quiet (fail)
            go_wp2
            go_roundw
            case rel => exact ⟨k + 1, by omega, by go_num, by first | exact HB.out | exact drewN_below HB.out _, hid (by rw [HKR.out, HP.out, HEI.out]; rfl)⟩
            case measure => simp [RowKit.intOf]; omega
          case true =>
            cases hn : (fk.v.number == fi.v.number)
            case false =>
              have HP := hid (show (goodT) fi.v fk.v = false by show ((fk.v.kind == 6) && fk.v.good && (fk.v.text.toList == fi.v.text.toList) && (fk.v.number == fi.v.number)) = _; rw [hk, hg, ht, hn]; simp)
              go_wp2
              go_quiet (fail)
              go_wp2
              go_roundw
              case rel => exact ⟨k + 1, by omega, by go_num, by first | exact HB.out | exact drewN_below HB.out _, hid (by rw [HKR.out, HP.out, HEI.out]; rfl)⟩
              case measure => simp [RowKit.intOf]; omega
            case true =>
              have HP := hid (show (goodT) fi.v fk.v = true by show ((fk.v.kind == 6) && fk.v.good && (fk.v.text.toList == fi.v.text.toList) && (fk.v.number == fi.v.number)) = _; rw [hk, hg, ht, hn]; rfl)
              go_wp2
              go_quiet (fail)
              go_wp2
              go_ret
              refine ⟨?_, by first | exact HB.out | exact drewN_below HB.out _⟩
              rw [HKR.out, HP.out]; rfl
    · have hie : k = i := by omega
      subst hie
      clear hbel
      go_wp2
      go_ret
      exact ⟨by rw [HK.out, HEND.out]; rfl, by first | exact HB.out | exact drewN_below HB.out _⟩

def twiceW (f : FactV) (ahead : List FactV) : Bool := (f.kind == 6) && anyB (sameT 6) f ahead

def askedW (f : FactV) (ahead : List FactV) : Bool := ((f.kind == 6) || (f.kind == 8)) && !anyB (sameT 4) f ahead

def acceptW (f : FactV) (ahead : List FactV) : Bool := (f.kind == 8) && (!anyB goodT f ahead || anyB (sameT 8) f ahead)

set_option maxRecDepth 20000 in
set_option maxHeartbeats 4000000 in
theorem twice_spec (es : List FactD) (hn : es.length ≤ 1048576) (av : Value) (w : World) (hav : FactsAt w av es) :
    Calls Try.prog 11 #[av] w fun e w' => (∃ r : Int, e = .returned (.int .i64 r) ∧ IsFirst (twiceW) (es.map (·.v)) r) ∧ Below w.heap.size w w' := by
  have HAV := hid hav
  obtain ⟨⟨p, c, rfl, _, hr⟩, _⟩ := hav
  have HR := hid hr
  clear hr
  by_cases hmany : 300 < es.length
  · go_enter Try.func11, Try.ntmps11
    have hm : ¬ ((es.length : Int) ≤ 300) := by omega
    go_wp2
    go_loopw [3] (fun iv wr => iv = .int .i64 0 ∧ w = wr) (fun _ _ => 0)
    case atStart => exact ⟨rfl, by first | rfl | trivial⟩
    case round =>
      obtain ⟨rfl, rfl⟩ := hrel
      go_wp2
      go_ret
      exact ⟨⟨-1, rfl, Or.inl ⟨rfl, Or.inl (by simpa using hmany)⟩⟩, Below.refl _ _⟩
  have hfew : es.length ≤ 300 := by omega
  have hf2 : (es.length : Int) ≤ 300 := by omega
  go_enter Try.func11, Try.ntmps11
  go_wp2
  go_loopw [3] (fun iv wr => ∃ i : Nat, i ≤ es.length ∧ iv = .int .i64 i ∧ Below w.heap.size w wr ∧ Hid (∀ j (hj : j < (es.map (·.v)).length), j < i → (twiceW) (es.map (·.v))[j] ((es.map (·.v)).take j) = false)) (fun iv _ => es.length - (RowKit.intOf iv).toNat)
  case atStart => exact ⟨0, Nat.zero_le _, rfl, Below.refl _ _, hid (fun j _ h => absurd h (by omega))⟩
  case round =>
    obtain ⟨i, hi, rfl, hbel, HNO⟩ := hrel
    have HB := hid hbel
    by_cases hlt : i < es.length
    · have hne : es ≠ [] := fun h => by rw [h] at hlt; cases hlt
      obtain ⟨g, o, rfl, hg, hc⟩ := HR.out hne
      have b1 : (0 : Int) ≤ (i : Int) := by omega
      have b2 : (i : Int) < (es.length : Int) := by omega
      obtain ⟨fi, hei⟩ : ∃ d, es[i] = d := ⟨_, rfl⟩
      have x0 : wr.cell? ⟨g, o + i * 6, none⟩ = some (.int .i64 fi.v.kind) := (hbel.cell (p := ⟨g, o + i * 6, none⟩) hg).trans ((hc i hlt 0 (by decide)).trans (by rw [hei]; rfl))
      have HKV := hid (show (es.map (·.v))[i]'(by simpa using hlt) = fi.v by simp [hei])
      obtain ⟨T, hT⟩ : ∃ T, T = (es.map (·.v)).take i := ⟨_, rfl⟩
      have HT := hid hT
      clear hc hbel
      cases h0 : (fi.v.kind == 6)
      case false =>
        have HW := hid (show (twiceW) ((es.map (·.v))[i]'(by simpa using hlt)) ((es.map (·.v)).take i) = false by rw [HKV.out, ← HT.out]; show ((fi.v.kind == 6) && anyB (sameT 6) fi.v T) = _; rw [h0]; rfl)
        clear hei hT
        go_wp2
        go_roundw
        case rel => exact ⟨i + 1, by omega, by go_num, (by first | exact HB.out | exact drewN_below HB.out _), hid (fun j hj h => by
          by_cases hk : j = i
          · subst hk; exact HW.out
          · exact HNO.out j hj (by omega))⟩
        case measure => simp [RowKit.intOf]; omega
      case true =>
        have HC0 := hid (fun W (hW : Below w.heap.size w W) => ahead_spec es hfew i hlt 6 _ W (HAV.out.on hW))
        rw [hei, ← hT] at HC0
        cases h1 : (anyB (sameT 6) fi.v T)
        case false =>
          have HD0 := HC0
          rw [h1] at HD0
          have HW := hid (show (twiceW) ((es.map (·.v))[i]'(by simpa using hlt)) ((es.map (·.v)).take i) = false by rw [HKV.out, ← HT.out]; show ((fi.v.kind == 6) && anyB (sameT 6) fi.v T) = _; rw [h0, h1]; rfl)
          clear hei hT
          go_wp2_with (go_at_call 35; refine (HD0.out _ HB.out).mono ?_; rintro e w1 ⟨rfl, hb1⟩; have HB1 := hid (HB.out.trans (hb1.mono HB.out.size)); clear hb1; refine Hid.out ?_)
          refine hid ?_
          go_wp2
          go_roundw
          case rel => exact ⟨i + 1, by omega, by go_num, (by first | exact HB1.out | exact drewN_below HB1.out _), hid (fun j hj h => by
            by_cases hk : j = i
            · subst hk; exact HW.out
            · exact HNO.out j hj (by omega))⟩
          case measure => simp [RowKit.intOf]; omega
        case true =>
          have HD0 := HC0
          rw [h1] at HD0
          have HW := hid (show (twiceW) ((es.map (·.v))[i]'(by simpa using hlt)) ((es.map (·.v)).take i) = true by rw [HKV.out, ← HT.out]; show ((fi.v.kind == 6) && anyB (sameT 6) fi.v T) = _; rw [h0, h1]; rfl)
          clear hei hT
          go_wp2_with (go_at_call 35; refine (HD0.out _ HB.out).mono ?_; rintro e w1 ⟨rfl, hb1⟩; have HB1 := hid (HB.out.trans (hb1.mono HB.out.size)); clear hb1; refine Hid.out ?_)
          refine hid ?_
          go_wp2
          go_ret
          exact ⟨⟨(i : Int), rfl, Or.inr ⟨by simpa using hfew, i, by simpa using hlt, rfl, HW.out, fun j hj => HNO.out j (by rw [List.length_map]; omega) hj⟩⟩, (by first | exact HB1.out | exact drewN_below HB1.out _)⟩
    · have hie : i = es.length := by omega
      subst hie
      clear hbel
      go_wp2
      go_ret
      exact ⟨⟨-1, rfl, Or.inl ⟨rfl, Or.inr fun j hj => HNO.out j hj (by simpa using hj)⟩⟩, HB.out⟩

set_option maxRecDepth 20000 in
set_option maxHeartbeats 4000000 in
theorem asked_spec (es : List FactD) (hn : es.length ≤ 1048576) (av : Value) (w : World) (hav : FactsAt w av es) :
    Calls Try.prog 24 #[av] w fun e w' => (∃ r : Int, e = .returned (.int .i64 r) ∧ IsFirst (askedW) (es.map (·.v)) r) ∧ Below w.heap.size w w' := by
  have HAV := hid hav
  obtain ⟨⟨p, c, rfl, _, hr⟩, _⟩ := hav
  have HR := hid hr
  clear hr
  by_cases hmany : 300 < es.length
  · go_enter Try.func24, Try.ntmps24
    have hm : ¬ ((es.length : Int) ≤ 300) := by omega
    go_wp2
    go_loopw [3] (fun iv wr => iv = .int .i64 0 ∧ w = wr) (fun _ _ => 0)
    case atStart => exact ⟨rfl, by first | rfl | trivial⟩
    case round =>
      obtain ⟨rfl, rfl⟩ := hrel
      go_wp2
      go_ret
      exact ⟨⟨-1, rfl, Or.inl ⟨rfl, Or.inl (by simpa using hmany)⟩⟩, Below.refl _ _⟩
  have hfew : es.length ≤ 300 := by omega
  have hf2 : (es.length : Int) ≤ 300 := by omega
  go_enter Try.func24, Try.ntmps24
  go_wp2
  go_loopw [3] (fun iv wr => ∃ i : Nat, i ≤ es.length ∧ iv = .int .i64 i ∧ Below w.heap.size w wr ∧ Hid (∀ j (hj : j < (es.map (·.v)).length), j < i → (askedW) (es.map (·.v))[j] ((es.map (·.v)).take j) = false)) (fun iv _ => es.length - (RowKit.intOf iv).toNat)
  case atStart => exact ⟨0, Nat.zero_le _, rfl, Below.refl _ _, hid (fun j _ h => absurd h (by omega))⟩
  case round =>
    obtain ⟨i, hi, rfl, hbel, HNO⟩ := hrel
    have HB := hid hbel
    by_cases hlt : i < es.length
    · have hne : es ≠ [] := fun h => by rw [h] at hlt; cases hlt
      obtain ⟨g, o, rfl, hg, hc⟩ := HR.out hne
      have b1 : (0 : Int) ≤ (i : Int) := by omega
      have b2 : (i : Int) < (es.length : Int) := by omega
      obtain ⟨fi, hei⟩ : ∃ d, es[i] = d := ⟨_, rfl⟩
      have x0 : wr.cell? ⟨g, o + i * 6, none⟩ = some (.int .i64 fi.v.kind) := (hbel.cell (p := ⟨g, o + i * 6, none⟩) hg).trans ((hc i hlt 0 (by decide)).trans (by rw [hei]; rfl))
      have HKV := hid (show (es.map (·.v))[i]'(by simpa using hlt) = fi.v by simp [hei])
      obtain ⟨T, hT⟩ : ∃ T, T = (es.map (·.v)).take i := ⟨_, rfl⟩
      have HT := hid hT
      clear hc hbel
      cases h0 : (fi.v.kind == 6)
      case false =>
        cases h1 : (fi.v.kind == 8)
        case false =>
          have HW := hid (show (askedW) ((es.map (·.v))[i]'(by simpa using hlt)) ((es.map (·.v)).take i) = false by rw [HKV.out, ← HT.out]; show (((fi.v.kind == 6) || (fi.v.kind == 8)) && !anyB (sameT 4) fi.v T) = _; rw [h0, h1]; rfl)
          clear hei hT
          go_wp2
          go_roundw
          case rel => exact ⟨i + 1, by omega, by go_num, (by first | exact HB.out | exact drewN_below HB.out _), hid (fun j hj h => by
            by_cases hk : j = i
            · subst hk; exact HW.out
            · exact HNO.out j hj (by omega))⟩
          case measure => simp [RowKit.intOf]; omega
        case true =>
          have HC0 := hid (fun W (hW : Below w.heap.size w W) => ahead_spec es hfew i hlt 4 _ W (HAV.out.on hW))
          rw [hei, ← hT] at HC0
          cases h2 : (anyB (sameT 4) fi.v T)
          case false =>
            have HD0 := HC0
            rw [h2] at HD0
            have HW := hid (show (askedW) ((es.map (·.v))[i]'(by simpa using hlt)) ((es.map (·.v)).take i) = true by rw [HKV.out, ← HT.out]; show (((fi.v.kind == 6) || (fi.v.kind == 8)) && !anyB (sameT 4) fi.v T) = _; rw [h0, h1, h2]; rfl)
            clear hei hT
            go_wp2_with (go_at_call 35; refine (HD0.out _ HB.out).mono ?_; rintro e w1 ⟨rfl, hb1⟩; have HB1 := hid (HB.out.trans (hb1.mono HB.out.size)); clear hb1; refine Hid.out ?_)
            refine hid ?_
            go_wp2
            go_ret
            exact ⟨⟨(i : Int), rfl, Or.inr ⟨by simpa using hfew, i, by simpa using hlt, rfl, HW.out, fun j hj => HNO.out j (by rw [List.length_map]; omega) hj⟩⟩, (by first | exact HB1.out | exact drewN_below HB1.out _)⟩
          case true =>
            have HD0 := HC0
            rw [h2] at HD0
            have HW := hid (show (askedW) ((es.map (·.v))[i]'(by simpa using hlt)) ((es.map (·.v)).take i) = false by rw [HKV.out, ← HT.out]; show (((fi.v.kind == 6) || (fi.v.kind == 8)) && !anyB (sameT 4) fi.v T) = _; rw [h0, h1, h2]; rfl)
            clear hei hT
            go_wp2_with (go_at_call 35; refine (HD0.out _ HB.out).mono ?_; rintro e w1 ⟨rfl, hb1⟩; have HB1 := hid (HB.out.trans (hb1.mono HB.out.size)); clear hb1; refine Hid.out ?_)
            refine hid ?_
            go_wp2
            go_roundw
            case rel => exact ⟨i + 1, by omega, by go_num, (by first | exact HB1.out | exact drewN_below HB1.out _), hid (fun j hj h => by
              by_cases hk : j = i
              · subst hk; exact HW.out
              · exact HNO.out j hj (by omega))⟩
            case measure => simp [RowKit.intOf]; omega
      case true =>
        have HC0 := hid (fun W (hW : Below w.heap.size w W) => ahead_spec es hfew i hlt 4 _ W (HAV.out.on hW))
        rw [hei, ← hT] at HC0
        cases h1 : (anyB (sameT 4) fi.v T)
        case false =>
          have HD0 := HC0
          rw [h1] at HD0
          have HW := hid (show (askedW) ((es.map (·.v))[i]'(by simpa using hlt)) ((es.map (·.v)).take i) = true by rw [HKV.out, ← HT.out]; show (((fi.v.kind == 6) || (fi.v.kind == 8)) && !anyB (sameT 4) fi.v T) = _; rw [h0, h1]; rfl)
          clear hei hT
          go_wp2_with (go_at_call 35; refine (HD0.out _ HB.out).mono ?_; rintro e w1 ⟨rfl, hb1⟩; have HB1 := hid (HB.out.trans (hb1.mono HB.out.size)); clear hb1; refine Hid.out ?_)
          refine hid ?_
          go_wp2
          go_ret
          exact ⟨⟨(i : Int), rfl, Or.inr ⟨by simpa using hfew, i, by simpa using hlt, rfl, HW.out, fun j hj => HNO.out j (by rw [List.length_map]; omega) hj⟩⟩, (by first | exact HB1.out | exact drewN_below HB1.out _)⟩
        case true =>
          have HD0 := HC0
          rw [h1] at HD0
          have HW := hid (show (askedW) ((es.map (·.v))[i]'(by simpa using hlt)) ((es.map (·.v)).take i) = false by rw [HKV.out, ← HT.out]; show (((fi.v.kind == 6) || (fi.v.kind == 8)) && !anyB (sameT 4) fi.v T) = _; rw [h0, h1]; rfl)
          clear hei hT
          go_wp2_with (go_at_call 35; refine (HD0.out _ HB.out).mono ?_; rintro e w1 ⟨rfl, hb1⟩; have HB1 := hid (HB.out.trans (hb1.mono HB.out.size)); clear hb1; refine Hid.out ?_)
          refine hid ?_
          go_wp2
          go_roundw
          case rel => exact ⟨i + 1, by omega, by go_num, (by first | exact HB1.out | exact drewN_below HB1.out _), hid (fun j hj h => by
            by_cases hk : j = i
            · subst hk; exact HW.out
            · exact HNO.out j hj (by omega))⟩
          case measure => simp [RowKit.intOf]; omega
    · have hie : i = es.length := by omega
      subst hie
      clear hbel
      go_wp2
      go_ret
      exact ⟨⟨-1, rfl, Or.inl ⟨rfl, Or.inr fun j hj => HNO.out j hj (by simpa using hj)⟩⟩, HB.out⟩

set_option maxRecDepth 20000 in
set_option maxHeartbeats 4000000 in
theorem accept_spec (es : List FactD) (hn : es.length ≤ 1048576) (av : Value) (w : World) (hav : FactsAt w av es) :
    Calls Try.prog 22 #[av] w fun e w' => (∃ r : Int, e = .returned (.int .i64 r) ∧ IsFirst (acceptW) (es.map (·.v)) r) ∧ Below w.heap.size w w' := by
  have HAV := hid hav
  obtain ⟨⟨p, c, rfl, _, hr⟩, _⟩ := hav
  have HR := hid hr
  clear hr
  by_cases hmany : 300 < es.length
  · go_enter Try.func22, Try.ntmps22
    have hm : ¬ ((es.length : Int) ≤ 300) := by omega
    go_wp2
    go_loopw [3] (fun iv wr => iv = .int .i64 0 ∧ w = wr) (fun _ _ => 0)
    case atStart => exact ⟨rfl, by first | rfl | trivial⟩
    case round =>
      obtain ⟨rfl, rfl⟩ := hrel
      go_wp2
      go_ret
      exact ⟨⟨-1, rfl, Or.inl ⟨rfl, Or.inl (by simpa using hmany)⟩⟩, Below.refl _ _⟩
  have hfew : es.length ≤ 300 := by omega
  have hf2 : (es.length : Int) ≤ 300 := by omega
  go_enter Try.func22, Try.ntmps22
  go_wp2
  go_loopw [3] (fun iv wr => ∃ i : Nat, i ≤ es.length ∧ iv = .int .i64 i ∧ Below w.heap.size w wr ∧ Hid (∀ j (hj : j < (es.map (·.v)).length), j < i → (acceptW) (es.map (·.v))[j] ((es.map (·.v)).take j) = false)) (fun iv _ => es.length - (RowKit.intOf iv).toNat)
  case atStart => exact ⟨0, Nat.zero_le _, rfl, Below.refl _ _, hid (fun j _ h => absurd h (by omega))⟩
  case round =>
    obtain ⟨i, hi, rfl, hbel, HNO⟩ := hrel
    have HB := hid hbel
    by_cases hlt : i < es.length
    · have hne : es ≠ [] := fun h => by rw [h] at hlt; cases hlt
      obtain ⟨g, o, rfl, hg, hc⟩ := HR.out hne
      have b1 : (0 : Int) ≤ (i : Int) := by omega
      have b2 : (i : Int) < (es.length : Int) := by omega
      obtain ⟨fi, hei⟩ : ∃ d, es[i] = d := ⟨_, rfl⟩
      have x0 : wr.cell? ⟨g, o + i * 6, none⟩ = some (.int .i64 fi.v.kind) := (hbel.cell (p := ⟨g, o + i * 6, none⟩) hg).trans ((hc i hlt 0 (by decide)).trans (by rw [hei]; rfl))
      have HKV := hid (show (es.map (·.v))[i]'(by simpa using hlt) = fi.v by simp [hei])
      obtain ⟨T, hT⟩ : ∃ T, T = (es.map (·.v)).take i := ⟨_, rfl⟩
      have HT := hid hT
      clear hc hbel
      cases h0 : (fi.v.kind == 8)
      case false =>
        have HW := hid (show (acceptW) ((es.map (·.v))[i]'(by simpa using hlt)) ((es.map (·.v)).take i) = false by rw [HKV.out, ← HT.out]; show ((fi.v.kind == 8) && (!anyB goodT fi.v T || anyB (sameT 8) fi.v T)) = _; rw [h0]; rfl)
        clear hei hT
        go_wp2
        go_roundw
        case rel => exact ⟨i + 1, by omega, by go_num, (by first | exact HB.out | exact drewN_below HB.out _), hid (fun j hj h => by
          by_cases hk : j = i
          · subst hk; exact HW.out
          · exact HNO.out j hj (by omega))⟩
        case measure => simp [RowKit.intOf]; omega
      case true =>
        have HC0 := hid (fun W (hW : Below w.heap.size w W) => found_spec es hfew i hlt _ W (HAV.out.on hW))
        rw [hei, ← hT] at HC0
        cases h1 : (anyB goodT fi.v T)
        case false =>
          have HD0 := HC0
          rw [h1] at HD0
          have HW := hid (show (acceptW) ((es.map (·.v))[i]'(by simpa using hlt)) ((es.map (·.v)).take i) = true by rw [HKV.out, ← HT.out]; show ((fi.v.kind == 8) && (!anyB goodT fi.v T || anyB (sameT 8) fi.v T)) = _; rw [h0, h1]; rfl)
          clear hei hT
          go_wp2_with (go_at_call 50; refine (HD0.out _ HB.out).mono ?_; rintro e w1 ⟨rfl, hb1⟩; have HB1 := hid (HB.out.trans (hb1.mono HB.out.size)); clear hb1; refine Hid.out ?_)
          refine hid ?_
          go_wp2
          go_ret
          exact ⟨⟨(i : Int), rfl, Or.inr ⟨by simpa using hfew, i, by simpa using hlt, rfl, HW.out, fun j hj => HNO.out j (by rw [List.length_map]; omega) hj⟩⟩, (by first | exact HB1.out | exact drewN_below HB1.out _)⟩
        case true =>
          have HD0 := HC0
          rw [h1] at HD0
          have HC1 := hid (fun W (hW : Below w.heap.size w W) => ahead_spec es hfew i hlt 8 _ W (HAV.out.on hW))
          rw [hei, ← hT] at HC1
          cases h2 : (anyB (sameT 8) fi.v T)
          case false =>
            have HD1 := HC1
            rw [h2] at HD1
            have HW := hid (show (acceptW) ((es.map (·.v))[i]'(by simpa using hlt)) ((es.map (·.v)).take i) = false by rw [HKV.out, ← HT.out]; show ((fi.v.kind == 8) && (!anyB goodT fi.v T || anyB (sameT 8) fi.v T)) = _; rw [h0, h1, h2]; rfl)
            clear hei hT
            go_wp2_with (go_at_call 50; refine (HD0.out _ HB.out).mono ?_; rintro e w1 ⟨rfl, hb1⟩; have HB1 := hid (HB.out.trans (hb1.mono HB.out.size)); clear hb1; refine Hid.out ?_)
            refine hid ?_
            go_wp2_with (go_at_call 35; refine (HD1.out _ HB1.out).mono ?_; rintro e w2 ⟨rfl, hb2⟩; have HB2 := hid (HB1.out.trans (hb2.mono HB1.out.size)); clear hb2; refine Hid.out ?_)
            refine hid ?_
            go_wp2
            go_roundw
            case rel => exact ⟨i + 1, by omega, by go_num, (by first | exact HB2.out | exact drewN_below HB2.out _), hid (fun j hj h => by
              by_cases hk : j = i
              · subst hk; exact HW.out
              · exact HNO.out j hj (by omega))⟩
            case measure => simp [RowKit.intOf]; omega
          case true =>
            have HD1 := HC1
            rw [h2] at HD1
            have HW := hid (show (acceptW) ((es.map (·.v))[i]'(by simpa using hlt)) ((es.map (·.v)).take i) = true by rw [HKV.out, ← HT.out]; show ((fi.v.kind == 8) && (!anyB goodT fi.v T || anyB (sameT 8) fi.v T)) = _; rw [h0, h1, h2]; rfl)
            clear hei hT
            go_wp2_with (go_at_call 50; refine (HD0.out _ HB.out).mono ?_; rintro e w1 ⟨rfl, hb1⟩; have HB1 := hid (HB.out.trans (hb1.mono HB.out.size)); clear hb1; refine Hid.out ?_)
            refine hid ?_
            go_wp2_with (go_at_call 35; refine (HD1.out _ HB1.out).mono ?_; rintro e w2 ⟨rfl, hb2⟩; have HB2 := hid (HB1.out.trans (hb2.mono HB1.out.size)); clear hb2; refine Hid.out ?_)
            refine hid ?_
            go_wp2
            go_ret
            exact ⟨⟨(i : Int), rfl, Or.inr ⟨by simpa using hfew, i, by simpa using hlt, rfl, HW.out, fun j hj => HNO.out j (by rw [List.length_map]; omega) hj⟩⟩, (by first | exact HB2.out | exact drewN_below HB2.out _)⟩
    · have hie : i = es.length := by omega
      subst hie
      clear hbel
      go_wp2
      go_ret
      exact ⟨⟨-1, rfl, Or.inl ⟨rfl, Or.inr fun j hj => HNO.out j hj (by simpa using hj)⟩⟩, HB.out⟩

end Go.Proofs.Ytedmancgpjpecaa
