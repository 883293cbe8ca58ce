/- A good verdict on what is listed has a quote behind it: the program's two functions, and its BackedAt. -/
import Derived.Test.YtedmancgpjpecaaImgSet
import Derived.Test.YtedmancgpjpecaaAudFace
namespace Go.Proofs.Ytedmancgpjpecaa
open Go.RowKit
open Go.Lib (hid)

/-- Images that can be, not too many. -/
def FitV (f : FactV) : Prop := (∀ e ∈ f.ims, tameImage e) ∧ f.ims.length ≤ 1048576

def vouchB (ls : List ImageD) (f : FactV) : Bool := (f.kind == 6) && (f.good && (decide (0 < (f.ims.length : Int)) && allB ls f.ims))

def quotedB (f o : FactV) : Bool := (o.kind == 5) && ((o.text.toList == f.text.toList) && ((o.number == f.number) && imsB o.ims f.ims))

def backC (ls : List ImageD) : Claim := ⟨vouchB ls, fun f o _ => quotedB f o, true⟩

set_option maxRecDepth 20000 in
set_option maxHeartbeats 4000000 in
theorem vouches_calls (ls : List ImageD) (hs : ∀ e ∈ ls, tameImage e) (f : FactD) (hf : FitV f.v) (b : Nat) (v : Value) (w : World) (him : ImAt w f) (hb : b < w.heap.size) (hc : w.cell? ⟨b, 0, none⟩ = some v) (hv : SetAt w v ls) :
    Calls Try.prog 62 #[.agg (encFact f).toArray, .pointer (some ⟨b, 0, none⟩)] w fun e w' => e = .returned (.bool (vouchB ls f.v)) ∧ Below w.heap.size w w' := by
  obtain ⟨⟨x0, x1, x2, x3, lx, x5⟩, px, cx⟩ := f
  dsimp only [encFact]
  obtain ⟨w1, hw1⟩ : ∃ W, W = w.alloc (.cells #[.int .i64 x0, .int .i64 x1, .int .i64 x2, .string x3, .slice px lx.length cx, .bool x5] 47) := ⟨_, rfl⟩
  have hb1 : Below w.heap.size w w1 := by rw [hw1]; exact (Below.refl _ _).alloc (Nat.le_refl _) _
  have HB1 := hid hb1
  have hcc := at_box hb1 hb hc
  have HAL := hid (hasall_calls ls hs lx hf.2 hf.1 v (.slice px lx.length cx) w1 (hv.on hb1) (FRow.on him hb1))
  obtain ⟨s, rfl, _⟩ := hv
  rw [hw1] at hcc
  have HW1 := hid hw1
  have HLN := hid hf.2
  clear hw1 hb1 hf him
  cases x5
  case false =>
    cases hk : (x0 == 6)
    case false =>
      have HRES := hid (show vouchB ls ⟨x0, x1, x2, x3, lx, false⟩ = false by show ((x0 == 6) && (false && (decide (0 < (lx.length : Int)) && allB ls lx))) = _; rw [hk]; rfl)
      go_enter Try.func62, Try.ntmps62
      go_wp2
      go_ret
      exact ⟨by first | rfl | (rw [HRES.out]; done) | (rw [HRES.out]; rfl), (Below.refl _ _).alloc (Nat.le_refl _) _⟩
    case true =>
      have HRES := hid (show vouchB ls ⟨x0, x1, x2, x3, lx, false⟩ = false by show ((x0 == 6) && (false && (decide (0 < (lx.length : Int)) && allB ls lx))) = _; rw [hk]; rfl)
      go_enter Try.func62, Try.ntmps62
      go_wp2
      go_ret
      exact ⟨by first | rfl | (rw [HRES.out]; done) | (rw [HRES.out]; rfl), (Below.refl _ _).alloc (Nat.le_refl _) _⟩
  case true =>
    cases hk : (x0 == 6)
    case false =>
      have HRES := hid (show vouchB ls ⟨x0, x1, x2, x3, lx, true⟩ = false by show ((x0 == 6) && (true && (decide (0 < (lx.length : Int)) && allB ls lx))) = _; rw [hk]; rfl)
      go_enter Try.func62, Try.ntmps62
      go_wp2
      go_ret
      exact ⟨by first | rfl | (rw [HRES.out]; done) | (rw [HRES.out]; rfl), (Below.refl _ _).alloc (Nat.le_refl _) _⟩
    case true =>
      by_cases hln : 0 < lx.length
      case neg =>
        have hl := hid (decide_eq_false (show ¬ (0 < (lx.length : Int)) by omega))
        have HRES := hid (show vouchB ls ⟨x0, x1, x2, x3, lx, true⟩ = false by show ((x0 == 6) && (true && (decide (0 < (lx.length : Int)) && allB ls lx))) = _; rw [hk, hl.out]; rfl)
        go_enter Try.func62, Try.ntmps62
        go_wp2
        go_ret
        exact ⟨by first | rfl | (rw [HRES.out]; done) | (rw [HRES.out]; rfl), (Below.refl _ _).alloc (Nat.le_refl _) _⟩
      case pos =>
        have hl := hid (decide_eq_true (show 0 < (lx.length : Int) by omega))
        cases hr : allB ls lx
        case false =>
          rw [hr] at HAL
          have HRES := hid (show vouchB ls ⟨x0, x1, x2, x3, lx, true⟩ = false by show ((x0 == 6) && (true && (decide (0 < (lx.length : Int)) && allB ls lx))) = _; rw [hk, hl.out, hr]; rfl)
          go_enter Try.func62, Try.ntmps62
          go_wp2_with (go_at_call 63; rw [← HW1.out]; refine (HAL.out).mono ?_; rintro e w3 ⟨rfl, hb3⟩; have HB3 := hid (HB1.out.trans (hb3.mono HB1.out.size)); clear hb3; refine Hid.out ?_)
          refine hid ?_
          go_wp2
          go_ret
          exact ⟨by first | rfl | (rw [HRES.out]; done) | (rw [HRES.out]; rfl), HB3.out⟩
        case true =>
          rw [hr] at HAL
          have HRES := hid (show vouchB ls ⟨x0, x1, x2, x3, lx, true⟩ = true by show ((x0 == 6) && (true && (decide (0 < (lx.length : Int)) && allB ls lx))) = _; rw [hk, hl.out, hr]; rfl)
          go_enter Try.func62, Try.ntmps62
          go_wp2_with (go_at_call 63; rw [← HW1.out]; refine (HAL.out).mono ?_; rintro e w3 ⟨rfl, hb3⟩; have HB3 := hid (HB1.out.trans (hb3.mono HB1.out.size)); clear hb3; refine Hid.out ?_)
          refine hid ?_
          go_wp2
          go_ret
          exact ⟨by first | rfl | (rw [HRES.out]; done) | (rw [HRES.out]; rfl), HB3.out⟩

set_option maxRecDepth 20000 in
set_option maxHeartbeats 4000000 in
theorem quoted_calls (f o : FactD) (hf : FitV f.v) (ho : FitV o.v) (v : Value) (w : World) (hif : ImAt w f) (hio : ImAt w o) :
    Calls Try.prog 46 #[.agg (encFact f).toArray, .agg (encFact o).toArray, v] w fun e w' => e = .returned (.bool (quotedB f.v o.v)) ∧ Below w.heap.size w w' := by
  obtain ⟨⟨x0, x1, x2, x3, lx, x5⟩, px, cx⟩ := f
  obtain ⟨⟨y0, y1, y2, y3, ly, y5⟩, py, cy⟩ := o
  dsimp only [encFact]
  obtain ⟨w2, hw2⟩ : ∃ W, W = (w.alloc (.cells #[.int .i64 x0, .int .i64 x1, .int .i64 x2, .string x3, .slice px lx.length cx, .bool x5] 47)).alloc (.cells #[.int .i64 y0, .int .i64 y1, .int .i64 y2, .string y3, .slice py ly.length cy, .bool y5] 47) := ⟨_, rfl⟩
  have hb2 : Below w.heap.size w w2 := by rw [hw2]; exact two_below_al _ _ _
  have HB2 := hid hb2
  have HEQ := hid (equal_calls ly lx ho.2 (.slice py ly.length cy) (.slice px lx.length cx) w2 (FRow.on hio hb2) (FRow.on hif hb2))
  have HW2 := hid hw2
  clear hw2 hb2 hf ho hif hio
  cases hk : (y0 == 5)
  case false =>
    have HRES := hid (show quotedB ⟨x0, x1, x2, x3, lx, x5⟩ ⟨y0, y1, y2, y3, ly, y5⟩ = false by show ((y0 == 5) && ((y3.toList == x3.toList) && ((y2 == x2) && imsB ly lx))) = _; rw [hk]; rfl)
    go_enter Try.func46, Try.ntmps46
    go_wp2
    go_ret
    exact ⟨by first | rfl | (rw [HRES.out]; done) | (rw [HRES.out]; rfl), two_below_al _ _ _⟩
  case true =>
    cases ht : (y3.toList == x3.toList)
    case false =>
      have HRES := hid (show quotedB ⟨x0, x1, x2, x3, lx, x5⟩ ⟨y0, y1, y2, y3, ly, y5⟩ = false by show ((y0 == 5) && ((y3.toList == x3.toList) && ((y2 == x2) && imsB ly lx))) = _; rw [hk, ht]; rfl)
      go_enter Try.func46, Try.ntmps46
      go_wp2
      go_ret
      exact ⟨by first | rfl | (rw [HRES.out]; done) | (rw [HRES.out]; rfl), two_below_al _ _ _⟩
    case true =>
      cases hn : (y2 == x2)
      case false =>
        have HRES := hid (show quotedB ⟨x0, x1, x2, x3, lx, x5⟩ ⟨y0, y1, y2, y3, ly, y5⟩ = false by show ((y0 == 5) && ((y3.toList == x3.toList) && ((y2 == x2) && imsB ly lx))) = _; rw [hk, ht, hn]; rfl)
        go_enter Try.func46, Try.ntmps46
        go_wp2
        go_ret
        exact ⟨by first | rfl | (rw [HRES.out]; done) | (rw [HRES.out]; rfl), two_below_al _ _ _⟩
      case true =>
        cases hr : imsB ly lx
        case false =>
          rw [hr] at HEQ
          have HRES := hid (show quotedB ⟨x0, x1, x2, x3, lx, x5⟩ ⟨y0, y1, y2, y3, ly, y5⟩ = false by show ((y0 == 5) && ((y3.toList == x3.toList) && ((y2 == x2) && imsB ly lx))) = _; rw [hk, ht, hn, hr]; rfl)
          go_enter Try.func46, Try.ntmps46
          go_wp2_with (go_at_call 64; rw [← HW2.out]; refine (HEQ.out).mono ?_; rintro e w3 ⟨rfl, hb3⟩; have HB3 := hid (HB2.out.trans (hb3.mono HB2.out.size)); clear hb3; refine Hid.out ?_)
          refine hid ?_
          go_wp2
          go_ret
          exact ⟨by first | rfl | (rw [HRES.out]; done) | (rw [HRES.out]; rfl), HB3.out⟩
        case true =>
          rw [hr] at HEQ
          have HRES := hid (show quotedB ⟨x0, x1, x2, x3, lx, x5⟩ ⟨y0, y1, y2, y3, ly, y5⟩ = true by show ((y0 == 5) && ((y3.toList == x3.toList) && ((y2 == x2) && imsB ly lx))) = _; rw [hk, ht, hn, hr]; rfl)
          go_enter Try.func46, Try.ntmps46
          go_wp2_with (go_at_call 64; rw [← HW2.out]; refine (HEQ.out).mono ?_; rintro e w3 ⟨rfl, hb3⟩; have HB3 := hid (HB2.out.trans (hb3.mono HB2.out.size)); clear hb3; refine Hid.out ?_)
          refine hid ?_
          go_wp2
          go_ret
          exact ⟨by first | rfl | (rw [HRES.out]; done) | (rw [HRES.out]; rfl), HB3.out⟩

theorem enter_vouch : Enters 62 := fun _ _ => rfl
theorem enter_quoted : Enters 46 := fun _ _ => rfl

theorem vouch_calls (ls : List ImageD) (hn : ls.length ≤ 1048576) (hs : ∀ e ∈ ls, tameImage e) (a : Value) (w : World) (ha : FRow encImage 2 w a ls) :
    Calls Try.prog 45 #[a] w fun e w' => ∃ b v, e = .returned (.func (.func 62) #[] #[.pointer (some ⟨b, 0, none⟩)]) ∧ Below w.heap.size w w' ∧ b < w'.heap.size ∧ w'.cell? ⟨b, 0, none⟩ = some v ∧ SetAt w' v ls := by
  have hmf : ∀ (fn : Fn) (first cap : Array Value) (w : World), (Instr.makeFunc fn first cap).run Try.prog w = .ok (.func fn first cap) w := fun _ _ _ _ => rfl
  have CS := hid (setof_calls ls hn hs a w ha)
  clear hs ha
  go_enter Try.func45, Try.ntmps45
  go_wp2_with (go_at_call 61; refine (CS.out).mono ?_; rintro e w1 ⟨v1, rfl, hb1, hs1⟩; have HB1 := hid hb1; have HS1 := hid hs1; obtain ⟨s1, rfl, _⟩ := hs1; clear hb1; refine Hid.out ?_)
  refine hid ?_
  have H := hid (show (w1.alloc (.cells #[.map (some s1)] 74)).cell? ⟨w1.heap.size, 0, none⟩ = some (.map (some s1)) from (cell_of_row _ _ 0 _ _ _ (heap_alloc_new _ _)).trans rfl)
  go_wp2
  go_ret
  exact ⟨_, _, rfl, HB1.out.alloc HB1.out.size _, by simp, H.out, HS1.out.on ((Below.refl _ _).alloc (Nat.le_refl _) _)⟩

theorem asks_vouch {ls : List ImageD} (hs : ∀ e ∈ ls, tameImage e) {w : World} {b : Nat} {v : Value} (hb : b < w.heap.size) (hc : w.cell? ⟨b, 0, none⟩ = some v) (hv : SetAt w v ls) {d : ClaimD} (hk : d.ka = 62) (hca : d.ca = #[.pointer (some ⟨b, 0, none⟩)]) (ha : d.c.asks = vouchB ls) : AsksOk FitV w d := by
  intro W f hW him hf
  rw [hk, hca, ha]
  exact vouches_calls ls hs f hf b v W him (Nat.lt_of_lt_of_le hb hW.size) (at_box hW hb hc) (hv.on hW)

theorem ans_quoted {w : World} {d : ClaimD} (hk : d.kb = 46) (hc : d.cb = #[]) (ha : d.c.answers = fun f o _ => quotedB f o) : AnsOk FitV w d := by
  intro W f o v rest hW hif hio hf ho _ _
  rw [hk, hc, ha]
  exact quoted_calls f o hf ho v W hif hio

set_option maxRecDepth 20000 in
set_option maxHeartbeats 2000000 in
theorem backed_impl (es : List FactD) (hn : es.length ≤ 1048576) (hfit : ∀ d ∈ es, FitV d.v) (ls : List ImageD) (hm : ls.length ≤ 1048576) (hs : ∀ e ∈ ls, tameImage e) (av lv : Value) (w : World) (hav : FactsAt w av es) (hlv : FRow encImage 2 w lv ls) :
    Calls Try.prog 18 #[av, lv] w fun e w' => (∃ r : Int, e = .returned (.int .i64 r) ∧ IsFirst (wrongB [backC ls]) (es.map (·.v)) r) ∧ Below w.heap.size w w' := by
  have HA := hid hav
  have CV := hid (vouch_calls ls hm hs lv w hlv)
  have HS := hid hs
  have HFIT := hid hfit
  clear hav hlv hs hfit
  go_enter Try.func18, Try.ntmps18
  go_wp2_with (go_at_call 45; refine (CV.out).mono ?_; rintro e w1 ⟨b, v, rfl, hb1, hl1, hc1, hs1⟩; refine Hid.out ?_)
  refine hid ?_
  have HB1 := hid hb1
  have HA1 := hid (HA.out.on hb1)
  have HL1 := hid hl1
  have HC1 := hid hc1
  have HS1 := hid hs1
  clear hb1 hl1 hc1 hs1
  obtain ⟨w2, hw2⟩ : ∃ W, W = w1.alloc (.cells #[.func (.func 62) #[] #[.pointer (some ⟨b, 0, none⟩)], .func (.func 46) #[] #[], .bool true] 56) := ⟨_, rfl⟩
  have hb2 : Below w1.heap.size w1 w2 := by rw [hw2]; exact (Below.refl _ _).alloc (Nat.le_refl _) _
  have hrow : FRow encClaim 3 w2 (.slice (some ⟨w1.heap.size, 0, none⟩) 1 1) [⟨backC ls, 62, #[.pointer (some ⟨b, 0, none⟩)], 46, #[]⟩] := by rw [hw2]; exact claim_row ⟨backC ls, 62, #[.pointer (some ⟨b, 0, none⟩)], 46, #[]⟩ w1 56
  have HC := hid (firstWrong_calls FitV es HFIT.out [⟨backC ls, 62, #[.pointer (some ⟨b, 0, none⟩)], 46, #[]⟩] hn (by simp) av (.slice (some ⟨w1.heap.size, 0, none⟩) 1 1) w2 (HA1.out.on hb2) hrow (fun d hd => by rw [List.mem_singleton.1 hd]; exact ⟨enter_vouch, enter_quoted⟩) (fun d hd => by rw [List.mem_singleton.1 hd]; exact asks_vouch HS.out (Nat.lt_of_lt_of_le HL1.out hb2.size) (at_box hb2 HL1.out HC1.out) (HS1.out.on hb2) rfl rfl rfl) (fun d hd => by rw [List.mem_singleton.1 hd]; exact ans_quoted rfl rfl rfl))
  have HB2 := hid (HB1.out.trans (hb2.mono HB1.out.size))
  have HW2 := hid hw2
  clear hrow hw2 hb2
  go_wp2_with (go_at_call 37; rw [← HW2.out]; refine (HC.out).mono ?_; rintro e w3 ⟨⟨r, rfl, hr⟩, hb3⟩; refine Hid.out ?_)
  refine hid ?_
  have HR := hid hr
  have HB3 := hid (HB2.out.trans (hb3.mono HB2.out.size))
  clear hr hb3
  go_wp2
  go_ret
  exact ⟨⟨r, rfl, HR.out⟩, HB3.out⟩
end Go.Proofs.Ytedmancgpjpecaa
