/- A good verdict on what is listed has a quote behind it: the specification's BackedAt. -/
import Derived.Test.YtedmancgpjpecaaBackImpl
import Derived.Test.YtedmancgpjpecaaAudSpec
namespace Go.Proofs.Ytedmancgpjpecaa
open Go.RowKit
open Go.Lib (hid)

set_option maxRecDepth 20000 in
set_option maxHeartbeats 8000000 in
theorem backed1_spec (es : List FactD) (hfit : ∀ d ∈ es, FitV d.v) (i : Nat) (hi : i < es.length) (hn : es.length ≤ 300) (av : Value) (w : World) (hav : FactsAt w av es) :
    Calls Try.prog 43 #[av, .int .i64 (i : Int)] w fun e w' => e = .returned (.bool (anyB quotedB es[i].v ((es.map (·.v)).take i))) ∧ Below w.heap.size w w' := by
  have HIM := hid hav.2
  obtain ⟨⟨p, c, rfl, _, hr⟩, _⟩ := hav
  obtain ⟨g, o, rfl, hg, hc⟩ := hr (fun h => by rw [h] at hi; simp at hi)
  obtain ⟨R, hR⟩ : ∃ R, R = anyB quotedB es[i].v ((es.map (·.v)).take i) := ⟨_, rfl⟩
  rw [← hR]
  have HSTEP := hid (fun k (hk : k < i) => any_step quotedB es[i].v (es.map (·.v)) i k hk (by rw [List.length_map]; omega))
  have HEND := hid (any_end quotedB es[i].v (es.map (·.v)) i)
  have HKV := hid (fun k (hk : k < es.length) => (show (es.map (·.v))[k]'(by simpa using hk) = es[k].v by simp))
  have HR0 := hid (show R = (((es.map (·.v)).take i).drop 0).any (quotedB es[i].v) by rw [hR]; rfl)
  have HFIT := hid hfit
  clear hR hfit
  have HC := hid hc
  clear hc hr
  have hib : (0 : Int) ≤ (i : Int) := by omega
  have hib2 : (i : Int) < (es.length : Int) := by omega
  go_enter Try.func43, Try.ntmps43
  go_wp2
  go_loopw [5] (fun iv wr => ∃ k : Nat, k ≤ i ∧ iv = .int .i64 k ∧ Below w.heap.size w wr ∧ Hid (R = (((es.map (·.v)).take i).drop k).any (quotedB es[i].v))) (fun iv _ => i - (RowKit.intOf iv).toNat)
  case atStart => exact ⟨0, Nat.zero_le _, rfl, Below.refl _ _, HR0⟩
  case round =>
    obtain ⟨k, hk, rfl, hbel, HK⟩ := hrel
    have HB := hid hbel
    by_cases hlt : k < i
    · have hkl : k < es.length := by omega
      have b1 : (0 : Int) ≤ (k : Int) := by omega
      have b2 : (k : Int) < (es.length : Int) := by omega
      have hst := HSTEP.out k hlt
      rw [HKV.out k hkl] at hst
      have hc := HC.out
      have hkR := HK.out
      rw [hst] at hkR
      have hgw : g < wr.heap.size := Nat.lt_of_lt_of_le hg hbel.size
      have HEQ := hid (fun W (hW : Below wr.heap.size wr W) => images_spec es[k].v.ims es[i].v.ims (HFIT.out es[k] (List.getElem_mem hkl)).2 es[k].im es[i].im W ((HIM.out es[k] (List.getElem_mem hkl)).on (HB.out.trans (hW.mono HB.out.size))) ((HIM.out es[i] (List.getElem_mem hi)).on (HB.out.trans (hW.mono HB.out.size))))
      obtain ⟨fi, hei⟩ : ∃ d, es[i] = d := ⟨_, rfl⟩
      obtain ⟨fk, hek⟩ : ∃ d, es[k] = d := ⟨_, rfl⟩
      rw [hei, hek] at hkR HEQ
      unfold FactD.im at HEQ

      have x2 : ∀ W : World, Below wr.heap.size wr W → W.cell? ⟨g, o + i * 6 + 2, none⟩ = some (.int .i64 fi.v.number) := fun W hW => (hW.cell (p := ⟨g, o + i * 6 + 2, none⟩) hgw).trans ((hbel.cell (p := ⟨g, o + i * 6 + 2, none⟩) hg).trans ((hc i hi 2 (by decide)).trans (by rw [hei]; rfl)))
      have x3 : ∀ W : World, Below wr.heap.size wr W → W.cell? ⟨g, o + i * 6 + 3, none⟩ = some (.string fi.v.text) := fun W hW => (hW.cell (p := ⟨g, o + i * 6 + 3, none⟩) hgw).trans ((hbel.cell (p := ⟨g, o + i * 6 + 3, none⟩) hg).trans ((hc i hi 3 (by decide)).trans (by rw [hei]; rfl)))
      have x4 : ∀ W : World, Below wr.heap.size wr W → W.cell? ⟨g, o + i * 6 + 4, none⟩ = some (.slice fi.p fi.v.ims.length fi.c) := fun W hW => (hW.cell (p := ⟨g, o + i * 6 + 4, none⟩) hgw).trans ((hbel.cell (p := ⟨g, o + i * 6 + 4, none⟩) hg).trans ((hc i hi 4 (by decide)).trans (by rw [hei]; rfl)))
      have y0 : ∀ W : World, Below wr.heap.size wr W → W.cell? ⟨g, o + k * 6, none⟩ = some (.int .i64 fk.v.kind) := fun W hW => (hW.cell (p := ⟨g, o + k * 6, none⟩) hgw).trans ((hbel.cell (p := ⟨g, o + k * 6, none⟩) hg).trans ((hc k hkl 0 (by decide)).trans (by rw [hek]; rfl)))
      have y2 : ∀ W : World, Below wr.heap.size wr W → W.cell? ⟨g, o + k * 6 + 2, none⟩ = some (.int .i64 fk.v.number) := fun W hW => (hW.cell (p := ⟨g, o + k * 6 + 2, none⟩) hgw).trans ((hbel.cell (p := ⟨g, o + k * 6 + 2, none⟩) hg).trans ((hc k hkl 2 (by decide)).trans (by rw [hek]; rfl)))
      have y3 : ∀ W : World, Below wr.heap.size wr W → W.cell? ⟨g, o + k * 6 + 3, none⟩ = some (.string fk.v.text) := fun W hW => (hW.cell (p := ⟨g, o + k * 6 + 3, none⟩) hgw).trans ((hbel.cell (p := ⟨g, o + k * 6 + 3, none⟩) hg).trans ((hc k hkl 3 (by decide)).trans (by rw [hek]; rfl)))
      have y4 : ∀ W : World, Below wr.heap.size wr W → W.cell? ⟨g, o + k * 6 + 4, none⟩ = some (.slice fk.p fk.v.ims.length fk.c) := fun W hW => (hW.cell (p := ⟨g, o + k * 6 + 4, none⟩) hgw).trans ((hbel.cell (p := ⟨g, o + k * 6 + 4, none⟩) hg).trans ((hc k hkl 4 (by decide)).trans (by rw [hek]; rfl)))
      have HEI := hid hei
      have HKR := hid hkR
      clear hei hek hst hkR hc hbel
      cases hk5 : (fk.v.kind == 5)
      case false =>
        have HP := hid (show quotedB fi.v fk.v = false by show ((fk.v.kind == 5) && ((fk.v.text.toList == fi.v.text.toList) && ((fk.v.number == fi.v.number) && imsB fk.v.ims fi.v.ims))) = _; rw [hk5]; rfl)
        have x2 := x2 wr (Below.refl _ _)
        have x3 := x3 wr (Below.refl _ _)
        have x4 := x4 wr (Below.refl _ _)
        have y0 := y0 wr (Below.refl _ _)
        have y2 := y2 wr (Below.refl _ _)
        have y3 := y3 wr (Below.refl _ _)
        have y4 := y4 wr (Below.refl _ _)
        go_wp2
        go_quiet (fail)
        go_wp2
        go_roundw
        case rel => exact ⟨k + 1, by omega, by go_num, by first | exact HB.out | exact drewN_below HB.out _, hid (by rw [HKR.out, HP.out, HEI.out]; rfl)⟩
        case measure => simp [RowKit.intOf]; omega
      case true =>
        cases ht : (fk.v.text.toList == fi.v.text.toList)
        case false =>
          have HP := hid (show quotedB fi.v fk.v = false by show ((fk.v.kind == 5) && ((fk.v.text.toList == fi.v.text.toList) && ((fk.v.number == fi.v.number) && imsB fk.v.ims fi.v.ims))) = _; rw [hk5, ht]; rfl)
          have x2 := x2 wr (Below.refl _ _)
          have x3 := x3 wr (Below.refl _ _)
          have x4 := x4 wr (Below.refl _ _)
          have y0 := y0 wr (Below.refl _ _)
          have y2 := y2 wr (Below.refl _ _)
          have y3 := y3 wr (Below.refl _ _)
          have y4 := y4 wr (Below.refl _ _)
          go_wp2
          go_quiet (fail)
          go_wp2
          go_roundw
          case rel => exact ⟨k + 1, by omega, by go_num, by first | exact HB.out | exact drewN_below HB.out _, hid (by rw [HKR.out, HP.out, HEI.out]; rfl)⟩
          case measure => simp [RowKit.intOf]; omega
        case true =>
          cases hn2 : (fk.v.number == fi.v.number)
          case false =>
            have HP := hid (show quotedB fi.v fk.v = false by show ((fk.v.kind == 5) && ((fk.v.text.toList == fi.v.text.toList) && ((fk.v.number == fi.v.number) && imsB fk.v.ims fi.v.ims))) = _; rw [hk5, ht, hn2]; rfl)
            have x2 := x2 wr (Below.refl _ _)
            have x3 := x3 wr (Below.refl _ _)
            have x4 := x4 wr (Below.refl _ _)
            have y0 := y0 wr (Below.refl _ _)
            have y2 := y2 wr (Below.refl _ _)
            have y3 := y3 wr (Below.refl _ _)
            have y4 := y4 wr (Below.refl _ _)
            go_wp2
            go_quiet (fail)
            go_wp2
            go_roundw
            case rel => exact ⟨k + 1, by omega, by go_num, by first | exact HB.out | exact drewN_below HB.out _, hid (by rw [HKR.out, HP.out, HEI.out]; rfl)⟩
            case measure => simp [RowKit.intOf]; omega
          case true =>
            cases hr : imsB fk.v.ims fi.v.ims
            case false =>
              rw [hr] at HEQ
              have HP := hid (show quotedB fi.v fk.v = false by show ((fk.v.kind == 5) && ((fk.v.text.toList == fi.v.text.toList) && ((fk.v.number == fi.v.number) && imsB fk.v.ims fi.v.ims))) = _; rw [hk5, ht, hn2, hr]; rfl)
              go_wp2
              go_region_held3 (fun w' => Below wr.heap.size wr w') (first | with_reducible assumption | exact Below.drew (Below.refl _ _) | exact below_hop (by assumption) (by simp) (by assumption)) ((go_at_call 60; refine (HEQ.out _ (by with_reducible assumption)).mono ?_; rintro e w5 ⟨rfl, hb5⟩))
              rename_i hS
              have HB2 := hid (HB.out.trans (hS.mono HB.out.size))
              clear hS hb5
              go_wp2
              go_roundw
              case rel => exact ⟨k + 1, by omega, by go_num, HB2.out, hid (by rw [HKR.out, HP.out, HEI.out]; rfl)⟩
              case measure => simp [RowKit.intOf]; omega
            case true =>
              rw [hr] at HEQ
              have HP := hid (show quotedB fi.v fk.v = true by show ((fk.v.kind == 5) && ((fk.v.text.toList == fi.v.text.toList) && ((fk.v.number == fi.v.number) && imsB fk.v.ims fi.v.ims))) = _; rw [hk5, ht, hn2, hr]; rfl)
              go_wp2
              go_region_held3 (fun w' => Below wr.heap.size wr w') (first | with_reducible assumption | exact Below.drew (Below.refl _ _) | exact below_hop (by assumption) (by simp) (by assumption)) ((go_at_call 60; refine (HEQ.out _ (by with_reducible assumption)).mono ?_; rintro e w5 ⟨rfl, hb5⟩))
              rename_i hS
              have HB2 := hid (HB.out.trans (hS.mono HB.out.size))
              clear hS hb5
              go_wp2
              go_ret
              refine ⟨?_, HB2.out⟩
              rw [HKR.out, HP.out]; rfl
    · have hie : k = i := by omega
      subst hie
      clear hbel
      go_wp2
      go_ret
      exact ⟨by rw [HK.out, HEND.out]; rfl, HB.out⟩

def backW (ls : List ImageD) (f : FactV) (ahead : List FactV) : Bool := vouchB ls f && !anyB quotedB f ahead

theorem back_same (ls : List ImageD) (f : FactV) (l : List FactV) : wrongB [backC ls] f l = backW ls f l := by
  have h : wrongB [backC ls] f l = badC (backC ls) f l := by simp [wrongB]
  have h2 : badC (backC ls) f l = ((backC ls).asks f && (anyB quotedB f l != (backC ls).wanted)) := by
    unfold badC anyB
    rw [ans_plain (backC ls) quotedB (fun _ _ _ => rfl) f l 0, List.drop_zero]
  rw [h, h2]
  show (vouchB ls f && (anyB quotedB f l != true)) = _
  unfold backW
  cases anyB quotedB f l <;> rfl

set_option maxRecDepth 20000 in
set_option maxHeartbeats 8000000 in
theorem backed_spec (es : List FactD) (hn : es.length ≤ 1048576) (hfit : ∀ d ∈ es, FitV d.v) (ls : List ImageD) (hm : ls.length ≤ 1048576) (av lv : Value) (w : World) (hav : FactsAt w av es) (hlv : FRow encImage 2 w lv ls) :
    Calls Try.prog 16 #[av, lv] w fun e w' => (∃ r : Int, e = .returned (.int .i64 r) ∧ IsFirst (backW ls) (es.map (·.v)) r) ∧ Below w.heap.size w w' := by
  have HAV := hid hav
  have HLV := hid hlv
  have HFIT := hid hfit
  obtain ⟨q1, q2, rfl, _⟩ := hlv
  obtain ⟨⟨p, c, rfl, _, hr⟩, him⟩ := hav
  have HR := hid hr
  have HIM := hid him
  clear hr him hfit
  by_cases hmany : 300 < es.length
  · go_enter Try.func16, Try.ntmps16
    have hm : ¬ ((es.length : Int) ≤ 300) := by omega
    go_wp2
    go_loopw [5] (fun iv wr => iv = .int .i64 0 ∧ w = wr) (fun _ _ => 0)
    case atStart => exact ⟨rfl, by first | rfl | trivial⟩
    case round =>
      obtain ⟨rfl, rfl⟩ := hrel
      go_wp2
      go_ret
      exact ⟨⟨-1, rfl, Or.inl ⟨rfl, Or.inl (by simpa using hmany)⟩⟩, Below.refl _ _⟩
  have hfew : es.length ≤ 300 := by omega
  have hf2 : (es.length : Int) ≤ 300 := by omega
  go_enter Try.func16, Try.ntmps16
  go_wp2
  go_loopw [5] (fun iv wr => ∃ i : Nat, i ≤ es.length ∧ iv = .int .i64 i ∧ Below w.heap.size w wr ∧ Hid (∀ j (hj : j < (es.map (·.v)).length), j < i → backW ls (es.map (·.v))[j] ((es.map (·.v)).take j) = false)) (fun iv _ => es.length - (RowKit.intOf iv).toNat)
  case atStart => exact ⟨0, Nat.zero_le _, rfl, Below.refl _ _, hid (fun j _ h => absurd h (by omega))⟩
  case round =>
    obtain ⟨i, hi, rfl, hbel, HNO⟩ := hrel
    have HB := hid hbel
    by_cases hlt : i < es.length
    · have hne : es ≠ [] := fun h => by rw [h] at hlt; cases hlt
      obtain ⟨g, o, rfl, hg, hc⟩ := HR.out hne
      have b1 : (0 : Int) ≤ (i : Int) := by omega
      have b2 : (i : Int) < (es.length : Int) := by omega
      have HQB := hid (fun W (hW : Below w.heap.size w W) => backed1_spec es HFIT.out i hlt hfew _ W (HAV.out.on hW))
      have HIMI := hid (fun W (hW : Below w.heap.size w W) => FRow.on (HIM.out es[i] (List.getElem_mem hlt)) hW)
      have HFI := hid (HFIT.out es[i] (List.getElem_mem hlt))
      obtain ⟨fi, hei⟩ : ∃ d, es[i] = d := ⟨_, rfl⟩
      rw [hei] at HQB HIMI HFI

      have x0 : wr.cell? ⟨g, o + i * 6, none⟩ = some (.int .i64 fi.v.kind) := (hbel.cell (p := ⟨g, o + i * 6, none⟩) hg).trans ((hc i hlt 0 (by decide)).trans (by rw [hei]; rfl))
      have x1 : wr.cell? ⟨g, o + i * 6 + 1, none⟩ = some (.int .i64 fi.v.place) := (hbel.cell (p := ⟨g, o + i * 6 + 1, none⟩) hg).trans ((hc i hlt 1 (by decide)).trans (by rw [hei]; rfl))
      have x2 : wr.cell? ⟨g, o + i * 6 + 2, none⟩ = some (.int .i64 fi.v.number) := (hbel.cell (p := ⟨g, o + i * 6 + 2, none⟩) hg).trans ((hc i hlt 2 (by decide)).trans (by rw [hei]; rfl))
      have x3 : wr.cell? ⟨g, o + i * 6 + 3, none⟩ = some (.string fi.v.text) := (hbel.cell (p := ⟨g, o + i * 6 + 3, none⟩) hg).trans ((hc i hlt 3 (by decide)).trans (by rw [hei]; rfl))
      have x4 : wr.cell? ⟨g, o + i * 6 + 4, none⟩ = some (.slice fi.p fi.v.ims.length fi.c) := (hbel.cell (p := ⟨g, o + i * 6 + 4, none⟩) hg).trans ((hc i hlt 4 (by decide)).trans (by rw [hei]; rfl))
      have x5 : wr.cell? ⟨g, o + i * 6 + 5, none⟩ = some (.bool fi.v.good) := (hbel.cell (p := ⟨g, o + i * 6 + 5, none⟩) hg).trans ((hc i hlt 5 (by decide)).trans (by rw [hei]; rfl))

      have HKV := hid (show (es.map (·.v))[i]'(by simpa using hlt) = fi.v by simp [hei])
      clear hc hbel hei
      obtain ⟨T, hT⟩ : ∃ T, T = (es.map (·.v)).take i := ⟨_, rfl⟩
      have HT := hid hT
      rw [← hT] at HQB
      clear hT
      obtain ⟨w2, hw2⟩ : ∃ W, W = wr.alloc (.cells #[.int .i64 fi.v.kind, .int .i64 fi.v.place, .int .i64 fi.v.number, .string fi.v.text, .slice fi.p fi.v.ims.length fi.c, .bool fi.v.good] 47) := ⟨_, rfl⟩
      have hb2 : Below wr.heap.size wr w2 := by rw [hw2]; exact (Below.refl _ _).alloc (Nat.le_refl _) _
      have HB2 := hid (HB.out.trans (hb2.mono HB.out.size))
      have HAL := hid (all_spec ls fi.v.ims hm HFI.out.2 _ (.slice fi.p fi.v.ims.length fi.c) w2 (FRow.on HLV.out HB2.out) (HIMI.out w2 HB2.out))
      have HW2 := hid hw2
      clear hw2 hb2
      cases hk : (fi.v.kind == 6)
      case false =>
        have HW := hid (show backW ls ((es.map (·.v))[i]'(by simpa using hlt)) ((es.map (·.v)).take i) = false by rw [HKV.out, ← HT.out]; show (((fi.v.kind == 6) && (fi.v.good && (decide (0 < (fi.v.ims.length : Int)) && allB ls fi.v.ims))) && !anyB quotedB fi.v T) = _; rw [hk]; rfl)
        go_wp2
        go_roundw
        case rel => exact ⟨i + 1, by omega, by go_num, by rw [← HW2.out]; exact HB2.out, hid (fun j hj h => by
          by_cases hk : j = i
          · subst hk; exact HW.out
          · exact HNO.out j hj (by omega))⟩
        case measure => simp [RowKit.intOf]; omega
      case true =>
        cases hgd : fi.v.good
        case false =>
          rw [hgd] at x5 HW2
          have HW := hid (show backW ls ((es.map (·.v))[i]'(by simpa using hlt)) ((es.map (·.v)).take i) = false by rw [HKV.out, ← HT.out]; show (((fi.v.kind == 6) && (fi.v.good && (decide (0 < (fi.v.ims.length : Int)) && allB ls fi.v.ims))) && !anyB quotedB fi.v T) = _; rw [hk, hgd]; rfl)
          go_wp2
          go_roundw
          case rel => exact ⟨i + 1, by omega, by go_num, by rw [← HW2.out]; exact HB2.out, hid (fun j hj h => by
            by_cases hk : j = i
            · subst hk; exact HW.out
            · exact HNO.out j hj (by omega))⟩
          case measure => simp [RowKit.intOf]; omega
        case true =>
          rw [hgd] at x5 HW2
          by_cases hln : 0 < fi.v.ims.length
          case neg =>
            have hl := hid (decide_eq_false (show ¬ (0 < (fi.v.ims.length : Int)) by omega))
            have HW := hid (show backW ls ((es.map (·.v))[i]'(by simpa using hlt)) ((es.map (·.v)).take i) = false by rw [HKV.out, ← HT.out]; show (((fi.v.kind == 6) && (fi.v.good && (decide (0 < (fi.v.ims.length : Int)) && allB ls fi.v.ims))) && !anyB quotedB fi.v T) = _; rw [hk, hgd, hl.out]; rfl)
            go_wp2
            go_roundw
            case rel => exact ⟨i + 1, by omega, by go_num, by rw [← HW2.out]; exact HB2.out, hid (fun j hj h => by
              by_cases hk : j = i
              · subst hk; exact HW.out
              · exact HNO.out j hj (by omega))⟩
            case measure => simp [RowKit.intOf]; omega
          case pos =>
            have hl := hid (decide_eq_true (show 0 < (fi.v.ims.length : Int) by omega))
            cases hr : allB ls fi.v.ims
            case false =>
              rw [hr] at HAL
              have HW := hid (show backW ls ((es.map (·.v))[i]'(by simpa using hlt)) ((es.map (·.v)).take i) = false by rw [HKV.out, ← HT.out]; show (((fi.v.kind == 6) && (fi.v.good && (decide (0 < (fi.v.ims.length : Int)) && allB ls fi.v.ims))) && !anyB quotedB fi.v T) = _; rw [hk, hgd, hl.out, hr]; rfl)
              go_wp2_with (go_at_call 42; rw [← HW2.out]; refine (HAL.out).mono ?_; rintro e w3 ⟨rfl, hb3⟩; have HB3 := hid (HB2.out.trans (hb3.mono HB2.out.size)); clear hb3; refine Hid.out ?_)
              refine hid ?_
              go_wp2
              go_roundw
              case rel => exact ⟨i + 1, by omega, by go_num, HB3.out, hid (fun j hj h => by
                by_cases hk : j = i
                · subst hk; exact HW.out
                · exact HNO.out j hj (by omega))⟩
              case measure => simp [RowKit.intOf]; omega
            case true =>
              rw [hr] at HAL
              cases hq : anyB quotedB fi.v T
              case false =>
                rw [hq] at HQB
                have HW := hid (show backW ls ((es.map (·.v))[i]'(by simpa using hlt)) ((es.map (·.v)).take i) = true by rw [HKV.out, ← HT.out]; show (((fi.v.kind == 6) && (fi.v.good && (decide (0 < (fi.v.ims.length : Int)) && allB ls fi.v.ims))) && !anyB quotedB fi.v T) = _; rw [hk, hgd, hl.out, hr, hq]; rfl)
                go_wp2_with (go_at_call 42; rw [← HW2.out]; refine (HAL.out).mono ?_; rintro e w3 ⟨rfl, hb3⟩; have HB3 := hid (HB2.out.trans (hb3.mono HB2.out.size)); clear hb3; refine Hid.out ?_)
                refine hid ?_
                go_wp2_with (go_at_call 43; refine (HQB.out _ HB3.out).mono ?_; rintro e w4 ⟨rfl, hb4⟩; have HB4 := hid (HB3.out.trans (hb4.mono HB3.out.size)); clear hb4; refine Hid.out ?_)
                refine hid ?_
                go_wp2
                go_ret
                exact ⟨⟨(i : Int), rfl, Or.inr ⟨by simpa using hfew, i, by simpa using hlt, rfl, HW.out, fun j hj => HNO.out j (by rw [List.length_map]; omega) hj⟩⟩, HB4.out⟩
              case true =>
                rw [hq] at HQB
                have HW := hid (show backW ls ((es.map (·.v))[i]'(by simpa using hlt)) ((es.map (·.v)).take i) = false by rw [HKV.out, ← HT.out]; show (((fi.v.kind == 6) && (fi.v.good && (decide (0 < (fi.v.ims.length : Int)) && allB ls fi.v.ims))) && !anyB quotedB fi.v T) = _; rw [hk, hgd, hl.out, hr, hq]; rfl)
                go_wp2_with (go_at_call 42; rw [← HW2.out]; refine (HAL.out).mono ?_; rintro e w3 ⟨rfl, hb3⟩; have HB3 := hid (HB2.out.trans (hb3.mono HB2.out.size)); clear hb3; refine Hid.out ?_)
                refine hid ?_
                go_wp2_with (go_at_call 43; refine (HQB.out _ HB3.out).mono ?_; rintro e w4 ⟨rfl, hb4⟩; have HB4 := hid (HB3.out.trans (hb4.mono HB3.out.size)); clear hb4; refine Hid.out ?_)
                refine hid ?_
                go_wp2
                go_roundw
                case rel => exact ⟨i + 1, by omega, by go_num, HB4.out, hid (fun j hj h => by
                  by_cases hk : j = i
                  · subst hk; exact HW.out
                  · exact HNO.out j hj (by omega))⟩
                case measure => simp [RowKit.intOf]; omega
    · have hie : i = es.length := by omega
      subst hie
      clear hbel
      go_wp2
      go_ret
      exact ⟨⟨-1, rfl, Or.inl ⟨rfl, Or.inr fun j hj => HNO.out j hj (by simpa using hj)⟩⟩, HB.out⟩
end Go.Proofs.Ytedmancgpjpecaa
