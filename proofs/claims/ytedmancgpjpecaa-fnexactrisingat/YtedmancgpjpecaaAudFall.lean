/- Whether a quote falls behind one ahead of it: the program's fallsBehind, and what it asks of the facts between. -/
import Derived.Test.YtedmancgpjpecaaAudFace
namespace Go.Proofs.Ytedmancgpjpecaa
open Go.RowKit
open Go.Lib (hid)

/-- Was the device of f started anew by b? -/
def startB (f b : FactV) : Bool := (b.kind == 1) && (b.place == f.place) && b.good

def fallsA (f o : FactV) (between : List FactV) : Bool := (o.kind == 5) && ((o.place == f.place) && (decide (f.number < o.number) || ((f.number == o.number) && between.any (startB f))))

def fallC : Claim := ⟨fun f => ([5] : List Int).contains f.kind, fallsA, false⟩

set_option maxRecDepth 20000 in
set_option maxHeartbeats 2000000 in
theorem started_calls (d : FactD) (fb : Nat) (f : FactV) (w : World) (hl : fb < w.heap.size) (hc : w.cell? ⟨fb, 1, none⟩ = some (.int .i64 f.place)) :
    Calls Try.prog 65 #[.agg (encFact d).toArray, .pointer (some ⟨fb, 0, none⟩)] w fun e w' => e = .returned (.bool (startB f d.v)) ∧ Below w.heap.size w w' := by
  obtain ⟨⟨x0, x1, x2, x3, lx, x5⟩, px, cx⟩ := d
  unfold startB
  generalize f.place = y1 at *
  dsimp only [encFact]
  have q1 : (w.alloc (.cells #[.int .i64 x0, .int .i64 x1, .int .i64 x2, .string x3, .slice px lx.length cx, .bool x5] 47)).cell? ⟨fb, 1, none⟩ = some (.int .i64 y1) := (((Below.refl _ _).alloc (Nat.le_refl _) _).cell (p := ⟨fb, 1, none⟩) hl).trans hc
  have HB := hid (show Below w.heap.size w (w.alloc (.cells #[.int .i64 x0, .int .i64 x1, .int .i64 x2, .string x3, .slice px lx.length cx, .bool x5] 47)) from (Below.refl _ _).alloc (Nat.le_refl _) _)
  cases x5
  case false =>
    cases hk : (x0 == 1)
    case false =>
      cases hp : (x1 == y1)
      case false =>
        have HRES := hid (show ((x0 == 1) && (x1 == y1) && false) = false by rw [hk, hp]; rfl)
        go_enter Try.func65, Try.ntmps65
        go_wp2
        go_ret
        exact ⟨by first | rfl | (rw [HRES.out]; done) | (rw [HRES.out]; rfl), (Below.refl _ _).alloc (Nat.le_refl _) _⟩
      case true =>
        have HRES := hid (show ((x0 == 1) && (x1 == y1) && false) = false by rw [hk, hp]; rfl)
        go_enter Try.func65, Try.ntmps65
        go_wp2
        go_ret
        exact ⟨by first | rfl | (rw [HRES.out]; done) | (rw [HRES.out]; rfl), (Below.refl _ _).alloc (Nat.le_refl _) _⟩
    case true =>
      cases hp : (x1 == y1)
      case false =>
        have HRES := hid (show ((x0 == 1) && (x1 == y1) && false) = false by rw [hk, hp]; rfl)
        go_enter Try.func65, Try.ntmps65
        go_wp2
        go_ret
        exact ⟨by first | rfl | (rw [HRES.out]; done) | (rw [HRES.out]; rfl), (Below.refl _ _).alloc (Nat.le_refl _) _⟩
      case true =>
        have HRES := hid (show ((x0 == 1) && (x1 == y1) && false) = false by rw [hk, hp]; rfl)
        go_enter Try.func65, Try.ntmps65
        go_wp2
        go_ret
        exact ⟨by first | rfl | (rw [HRES.out]; done) | (rw [HRES.out]; rfl), (Below.refl _ _).alloc (Nat.le_refl _) _⟩
  case true =>
    cases hk : (x0 == 1)
    case false =>
      cases hp : (x1 == y1)
      case false =>
        have HRES := hid (show ((x0 == 1) && (x1 == y1) && true) = false by rw [hk, hp]; rfl)
        go_enter Try.func65, Try.ntmps65
        go_wp2
        go_ret
        exact ⟨by first | rfl | (rw [HRES.out]; done) | (rw [HRES.out]; rfl), (Below.refl _ _).alloc (Nat.le_refl _) _⟩
      case true =>
        have HRES := hid (show ((x0 == 1) && (x1 == y1) && true) = false by rw [hk, hp]; rfl)
        go_enter Try.func65, Try.ntmps65
        go_wp2
        go_ret
        exact ⟨by first | rfl | (rw [HRES.out]; done) | (rw [HRES.out]; rfl), (Below.refl _ _).alloc (Nat.le_refl _) _⟩
    case true =>
      cases hp : (x1 == y1)
      case false =>
        have HRES := hid (show ((x0 == 1) && (x1 == y1) && true) = false by rw [hk, hp]; rfl)
        go_enter Try.func65, Try.ntmps65
        go_wp2
        go_ret
        exact ⟨by first | rfl | (rw [HRES.out]; done) | (rw [HRES.out]; rfl), (Below.refl _ _).alloc (Nat.le_refl _) _⟩
      case true =>
        have HRES := hid (show ((x0 == 1) && (x1 == y1) && true) = true by rw [hk, hp]; rfl)
        go_enter Try.func65, Try.ntmps65
        go_wp2
        go_ret
        exact ⟨by first | rfl | (rw [HRES.out]; done) | (rw [HRES.out]; rfl), (Below.refl _ _).alloc (Nat.le_refl _) _⟩

set_option maxRecDepth 20000 in
set_option maxHeartbeats 2000000 in
theorem index_started (es : List FactD) (hn : es.length ≤ 300) (fb : Nat) (f : FactV) (av : Value) (w : World) (hav : FactsAt w av es) (hl : fb < w.heap.size) (hc : w.cell? ⟨fb, 1, none⟩ = some (.int .i64 f.place)) :
    Calls Try.prog 69 #[av, .func (.func 65) #[] #[.pointer (some ⟨fb, 0, none⟩)]] w fun e w' => (∃ r : Int, e = .returned (.int .i64 r) ∧ decide (0 ≤ r) = (es.map (·.v)).any (startB f)) ∧ Below w.heap.size w w' := by
  obtain ⟨⟨ap, ac, rfl, _, har⟩, _⟩ := hav
  have HAR := hid har
  have CU := hid (fun (d : FactD) W (h : Below w.heap.size w W) => started_calls d fb f W (Nat.lt_of_lt_of_le hl h.size) ((h.cell (p := ⟨fb, 1, none⟩) hl).trans hc))
  clear har hc
  obtain ⟨R, hR⟩ : ∃ R, R = (es.map (·.v)).any (startB f) := ⟨_, rfl⟩
  rw [← hR]
  have HR0 := hid hR
  clear hR
  go_enter Try.func69, Try.ntmps69
  go_wp2
  go_loopw [8] (fun iv wr => ∃ i : Nat, i ≤ es.length ∧ iv = .int .i64 i ∧ Below w.heap.size w wr ∧ Hid (R = ((es.map (·.v)).drop i).any (startB f))) (fun iv _ => es.length - (RowKit.intOf iv).toNat)
  case atStart => exact ⟨0, Nat.zero_le _, rfl, Below.refl _ _, HR0⟩
  case round =>
    obtain ⟨i, hi, rfl, hbel, HI⟩ := hrel
    have HB := hid hbel
    by_cases hlt : i < es.length
    · have hne : es ≠ [] := fun h => by rw [h] at hlt; cases hlt
      obtain ⟨ag, ao, rfl, hag, hac⟩ := HAR.out hne
      have b1 : (0 : Int) ≤ (i : Int) := by omega
      have b2 : (i : Int) < (es.length : Int) := by omega
      have e0 : wr.cell? ⟨ag, ao + i * 6, none⟩ = some (.int .i64 es[i].v.kind) := (hbel.cell (p := ⟨ag, ao + i * 6, none⟩) hag).trans (hac i hlt 0 (by decide))
      have e1 : wr.cell? ⟨ag, ao + i * 6 + 1, none⟩ = some (.int .i64 es[i].v.place) := (hbel.cell (p := ⟨ag, ao + i * 6 + 1, none⟩) hag).trans (hac i hlt 1 (by decide))
      have e2 : wr.cell? ⟨ag, ao + i * 6 + 2, none⟩ = some (.int .i64 es[i].v.number) := (hbel.cell (p := ⟨ag, ao + i * 6 + 2, none⟩) hag).trans (hac i hlt 2 (by decide))
      have e3 : wr.cell? ⟨ag, ao + i * 6 + 3, none⟩ = some (.string es[i].v.text) := (hbel.cell (p := ⟨ag, ao + i * 6 + 3, none⟩) hag).trans (hac i hlt 3 (by decide))
      have e4 : wr.cell? ⟨ag, ao + i * 6 + 4, none⟩ = some (.slice es[i].p es[i].v.ims.length es[i].c) := (hbel.cell (p := ⟨ag, ao + i * 6 + 4, none⟩) hag).trans (hac i hlt 4 (by decide))
      have e5 : wr.cell? ⟨ag, ao + i * 6 + 5, none⟩ = some (.bool es[i].v.good) := (hbel.cell (p := ⟨ag, ao + i * 6 + 5, none⟩) hag).trans (hac i hlt 5 (by decide))
      have HD := hid (show ((es.map (·.v)).drop i).any (startB f) = (startB f es[i].v || ((es.map (·.v)).drop (i + 1)).any (startB f)) by rw [List.drop_eq_getElem_cons (by simpa using hlt), List.any_cons, List.getElem_map])
      clear hac hbel
      generalize es[i] = o at *
      have CX := hid (fun W h => CU.out o W h)
      dsimp only [encFact] at CX
      cases hs : startB f o.v with
      | true =>
        rw [hs] at CX HD
        clear hs
        go_wp2_with (go_at_call 65; refine (CX.out _ HB.out).mono ?_; rintro e w8 ⟨rfl, hb8⟩; refine Hid.out ?_)
        refine hid ?_
        have HB8 := hid (HB.out.trans (hb8.mono HB.out.size))
        clear hb8 e0 e1 e2 e3 e4 e5
        go_wp2
        go_ret
        exact ⟨⟨(i : Int), rfl, by rw [HI.out, HD.out, decide_eq_true (by omega)]; rfl⟩, HB8.out⟩
      | false =>
        rw [hs] at CX HD
        clear hs
        go_wp2_with (go_at_call 65; refine (CX.out _ HB.out).mono ?_; rintro e w8 ⟨rfl, hb8⟩; refine Hid.out ?_)
        refine hid ?_
        have HB8 := hid (HB.out.trans (hb8.mono HB.out.size))
        clear hb8 e0 e1 e2 e3 e4 e5
        go_wp2
        go_roundw
        case rel => exact ⟨i + 1, by omega, by go_num, HB8.out, hid (by rw [HI.out, HD.out]; rfl)⟩
        case measure => simp [RowKit.intOf]; omega
    · have hie : i = es.length := by omega
      subst hie
      clear hbel
      go_wp2
      go_ret
      refine ⟨⟨-1, rfl, ?_⟩, HB.out⟩
      rw [HI.out, List.drop_of_length_le (by rw [List.length_map]; exact Nat.le_refl _)]
      rfl

theorem contains_started (es : List FactD) (hn : es.length ≤ 300) (fb : Nat) (f : FactV) (av : Value) (w : World) (hav : FactsAt w av es) (hl : fb < w.heap.size) (hc : w.cell? ⟨fb, 1, none⟩ = some (.int .i64 f.place)) :
    Calls Try.prog 66 #[av, .func (.func 65) #[] #[.pointer (some ⟨fb, 0, none⟩)]] w fun e w' => e = .returned (.bool ((es.map (·.v)).any (startB f))) ∧ Below w.heap.size w w' := by
  have HC := hid (index_started es hn fb f av w hav hl hc)
  clear hav hc
  generalize (es.map (·.v)).any (startB f) = b at *
  go_enter Try.func66, Try.ntmps66
  go_wp2_with (go_at_call 69; refine (HC.out).mono ?_; rintro e w2 ⟨⟨r, rfl, hr⟩, hb2⟩; refine Hid.out ?_)
  refine hid ?_
  have HR := hid hr
  have HB := hid hb2
  clear hr hb2
  go_wp2
  go_ret
  exact ⟨by first | rfl | (rw [HR.out]; done) | (rw [HR.out]; rfl), HB.out⟩

set_option maxRecDepth 20000 in
set_option maxHeartbeats 4000000 in
theorem falls_calls (f o : FactD) (es : List FactD) (hn : es.length ≤ 300) (v : Value) (w : World) (hv : FactsAt w v es) :
    Calls Try.prog 49 #[.agg (encFact f).toArray, .agg (encFact o).toArray, v] w fun e w' => e = .returned (.bool (fallsA f.v o.v (es.map (·.v)))) ∧ Below w.heap.size w w' := by
  have hmf : ∀ (fn : Fn) (first cap : Array Value) (w : World), (Instr.makeFunc fn first cap).run Try.prog w = .ok (.func fn first cap) w := fun _ _ _ _ => rfl
  obtain ⟨⟨x0, x1, x2, x3, lx, x5⟩, px, cx⟩ := f
  obtain ⟨⟨y0, y1, y2, y3, ly, y5⟩, py, cy⟩ := o
  dsimp only [encFact]
  obtain ⟨w1, hw1⟩ : ∃ W, W = w.alloc (.cells #[.int .i64 x0, .int .i64 x1, .int .i64 x2, .string x3, .slice px lx.length cx, .bool x5] 47) := ⟨_, rfl⟩
  obtain ⟨w2, hw2⟩ : ∃ W, W = w1.alloc (.cells #[.int .i64 y0, .int .i64 y1, .int .i64 y2, .string y3, .slice py ly.length cy, .bool y5] 47) := ⟨_, rfl⟩
  have hb1 : Below w.heap.size w w1 := by rw [hw1]; exact (Below.refl _ _).alloc (Nat.le_refl _) _
  have hb2 : Below w1.heap.size w1 w2 := by rw [hw2]; exact (Below.refl _ _).alloc (Nat.le_refl _) _
  have hz1 : w.heap.size < w1.heap.size := by rw [hw1]; simp
  have hz2 : w.heap.size < w2.heap.size := Nat.lt_of_lt_of_le hz1 hb2.size
  have hv1 : w1.heap[w.heap.size]? = some (.cells #[.int .i64 x0, .int .i64 x1, .int .i64 x2, .string x3, .slice px lx.length cx, .bool x5] 47) := by rw [hw1]; exact heap_alloc_new _ _
  have HB := hid (hb1.trans (hb2.mono hb1.size))
  have HCC := hid (contains_started es hn w.heap.size ⟨x0, x1, x2, x3, lx, x5⟩ v w2 (hv.on HB.out) hz2 ((cell_of_row _ _ 1 _ _ _ ((hb2.block _ hz1).trans hv1)).trans rfl))
  have HW := hid (show w2 = (w.alloc (.cells #[.int .i64 x0, .int .i64 x1, .int .i64 x2, .string x3, .slice px lx.length cx, .bool x5] 47)).alloc (.cells #[.int .i64 y0, .int .i64 y1, .int .i64 y2, .string y3, .slice py ly.length cy, .bool y5] 47) by rw [hw2, hw1])
  clear hw1 hw2 hb1 hb2 hv1 hv hz1 hz2

  cases h5 : (y0 == 5)
  case false =>
    have hne : (y0 != 5) = true := by simp only [bne, h5]; rfl
    have HRES := hid (show fallsA ⟨x0, x1, x2, x3, lx, x5⟩ ⟨y0, y1, y2, y3, ly, y5⟩ (es.map (·.v)) = false by show ((y0 == 5) && ((y1 == x1) && (decide (x2 < y2) || ((x2 == y2) && (es.map (·.v)).any (startB ⟨x0, x1, x2, x3, lx, x5⟩))))) = _; rw [h5]; rfl)
    go_enter Try.func49, Try.ntmps49
    go_wp2
    go_ret
    exact ⟨by first | rfl | (rw [HRES.out]; done) | (rw [HRES.out]; rfl), by rw [← HW.out]; exact HB.out⟩
  case true =>
    have hne : (y0 != 5) = false := by simp only [bne, h5]; rfl
    cases hp : (y1 == x1)
    case false =>
      have hnp : (y1 != x1) = true := by simp only [bne, hp]; rfl
      have HRES := hid (show fallsA ⟨x0, x1, x2, x3, lx, x5⟩ ⟨y0, y1, y2, y3, ly, y5⟩ (es.map (·.v)) = false by show ((y0 == 5) && ((y1 == x1) && (decide (x2 < y2) || ((x2 == y2) && (es.map (·.v)).any (startB ⟨x0, x1, x2, x3, lx, x5⟩))))) = _; rw [h5, hp]; rfl)
      go_enter Try.func49, Try.ntmps49
      go_wp2
      go_ret
      exact ⟨by first | rfl | (rw [HRES.out]; done) | (rw [HRES.out]; rfl), by rw [← HW.out]; exact HB.out⟩
    case true =>
      have hnp : (y1 != x1) = false := by simp only [bne, hp]; rfl
      cases hl : (decide (x2 < y2))
      case false =>
        cases hq : (x2 == y2)
        case false =>
          have HRES := hid (show fallsA ⟨x0, x1, x2, x3, lx, x5⟩ ⟨y0, y1, y2, y3, ly, y5⟩ (es.map (·.v)) = false by show ((y0 == 5) && ((y1 == x1) && (decide (x2 < y2) || ((x2 == y2) && (es.map (·.v)).any (startB ⟨x0, x1, x2, x3, lx, x5⟩))))) = _; rw [h5, hp, hl, hq]; rfl)
          go_enter Try.func49, Try.ntmps49
          go_wp2
          go_ret
          exact ⟨by first | rfl | (rw [HRES.out]; done) | (rw [HRES.out]; rfl), by rw [← HW.out]; exact HB.out⟩
        case true =>
          cases hr : (es.map (·.v)).any (startB ⟨x0, x1, x2, x3, lx, x5⟩)
          case false =>
            rw [hr] at HCC
            have HRES := hid (show fallsA ⟨x0, x1, x2, x3, lx, x5⟩ ⟨y0, y1, y2, y3, ly, y5⟩ (es.map (·.v)) = false by show ((y0 == 5) && ((y1 == x1) && (decide (x2 < y2) || ((x2 == y2) && (es.map (·.v)).any (startB ⟨x0, x1, x2, x3, lx, x5⟩))))) = _; rw [h5, hp, hl, hq, hr]; rfl)
            go_enter Try.func49, Try.ntmps49
            go_wp2_with (go_at_call 66; rw [← HW.out]; refine (HCC.out).mono ?_; rintro e w3 ⟨rfl, hb3⟩; have HB3 := hid (HB.out.trans (hb3.mono HB.out.size)); clear hb3; refine Hid.out ?_)
            refine hid ?_
            go_wp2
            go_ret
            exact ⟨by first | rfl | (rw [HRES.out]; done) | (rw [HRES.out]; rfl), HB3.out⟩
          case true =>
            rw [hr] at HCC
            have HRES := hid (show fallsA ⟨x0, x1, x2, x3, lx, x5⟩ ⟨y0, y1, y2, y3, ly, y5⟩ (es.map (·.v)) = true by show ((y0 == 5) && ((y1 == x1) && (decide (x2 < y2) || ((x2 == y2) && (es.map (·.v)).any (startB ⟨x0, x1, x2, x3, lx, x5⟩))))) = _; rw [h5, hp, hl, hq, hr]; rfl)
            go_enter Try.func49, Try.ntmps49
            go_wp2_with (go_at_call 66; rw [← HW.out]; refine (HCC.out).mono ?_; rintro e w3 ⟨rfl, hb3⟩; have HB3 := hid (HB.out.trans (hb3.mono HB.out.size)); clear hb3; refine Hid.out ?_)
            refine hid ?_
            go_wp2
            go_ret
            exact ⟨by first | rfl | (rw [HRES.out]; done) | (rw [HRES.out]; rfl), HB3.out⟩
      case true =>
        have HRES := hid (show fallsA ⟨x0, x1, x2, x3, lx, x5⟩ ⟨y0, y1, y2, y3, ly, y5⟩ (es.map (·.v)) = true by show ((y0 == 5) && ((y1 == x1) && (decide (x2 < y2) || ((x2 == y2) && (es.map (·.v)).any (startB ⟨x0, x1, x2, x3, lx, x5⟩))))) = _; rw [h5, hp, hl]; rfl)
        go_enter Try.func49, Try.ntmps49
        go_wp2
        go_ret
        exact ⟨by first | rfl | (rw [HRES.out]; done) | (rw [HRES.out]; rfl), by rw [← HW.out]; exact HB.out⟩
theorem enter_falls : Enters 49 := fun _ _ => rfl

theorem ans_falls {w : World} {d : ClaimD} (hk : d.kb = 49) (hc : d.cb = #[]) (ha : d.c.answers = fallsA) : AnsOk w d := by
  intro W f o v rest hW _ _ hv hl
  rw [hk, hc, ha]
  exact falls_calls f o rest hl v W hv

set_option maxRecDepth 20000 in
set_option maxHeartbeats 2000000 in
theorem rising_impl (es : List FactD) (hn : es.length ≤ 1048576) (av : Value) (w : World) (hav : FactsAt w av es) :
    Calls Try.prog 21 #[av] w fun e w' => (∃ r : Int, e = .returned (.int .i64 r) ∧ IsFirst (wrongB [fallC]) (es.map (·.v)) r) ∧ Below w.heap.size w w' := by
  have hmf : ∀ (fn : Fn) (first cap : Array Value) (w : World), (Instr.makeFunc fn first cap).run Try.prog w = .ok (.func fn first cap) w := fun _ _ _ _ => rfl
  have HFav_0 := hid hav
  have HB0 := hid (Below.refl w.heap.size w)
  clear hav
  obtain ⟨w1, hw1⟩ : ∃ W, W = w.alloc (.cells #[.int .i64 5] 2) := ⟨_, rfl⟩
  have hb1 : Below w.heap.size w w1 := by rw [hw1]; exact (Below.refl _ _).alloc (Nat.le_refl _) _
  have HVI := hid (show w1.heap[w.heap.size]? = some (.cells #[.int .i64 5] 2) from by rw [hw1]; exact heap_alloc_new _ _)
  have HB1 := hid (HB0.out.trans (hb1.mono HB0.out.size))
  have HFav_1 := hid (HFav_0.out.on hb1)
  clear HFav_0
  have HFi_1 := hid (show FRow encInt 1 w1 (.slice (some ⟨w.heap.size, 0, none⟩) 1 1) [5] from by rw [hw1]; exact ints_at [5] w 2)
  have HW1 := hid hw1
  clear hw1 hb1
  go_enter Try.func21, Try.ntmps21
  go_wp2_with (go_at_call 38; rw [← HW1.out]; refine (isof_calls _ _ _ _).mono ?_; rintro e w2 ⟨b2, rfl, hb2, hl2, hc2⟩; refine Hid.out ?_)
  refine hid ?_
  have HB2 := hid (HB1.out.trans (hb2.mono HB1.out.size))
  have HFav_2 := hid (HFav_1.out.on hb2)
  have HFi_2 := hid (HFi_1.out.on hb2)
  clear HFav_1 HFi_1
  have HFs_2 := hid (show isofOk [5] w2 #[.pointer (some ⟨b2, 0, none⟩)] from ⟨b2, _, rfl, hl2, hc2, HFi_2.out⟩)
  clear hb2 hl2 hc2
  obtain ⟨w3, hw3⟩ : ∃ W, W = w2.alloc (.cells #[.func (.func 56) #[] #[.pointer (some ⟨b2, 0, none⟩)], .func (.func 49) #[] #[], .bool false] 56) := ⟨_, rfl⟩
  have hb3 : Below w2.heap.size w2 w3 := by rw [hw3]; exact (Below.refl _ _).alloc (Nat.le_refl _) _
  have HVC := hid (show w3.heap[w2.heap.size]? = some (.cells #[.func (.func 56) #[] #[.pointer (some ⟨b2, 0, none⟩)], .func (.func 49) #[] #[], .bool false] 56) from by rw [hw3]; exact heap_alloc_new _ _)
  have HB3 := hid (HB2.out.trans (hb3.mono HB2.out.size))
  have HFav_3 := hid (HFav_2.out.on hb3)
  have HFi_3 := hid (HFi_2.out.on hb3)
  have HFs_3 := hid (HFs_2.out.on hb3)
  clear HFav_2 HFi_2 HFs_2
  have hrow : FRow encClaim 3 w3 (.slice (some ⟨w2.heap.size, 0, none⟩) 1 1) [⟨fallC, 56, #[.pointer (some ⟨b2, 0, none⟩)], 49, #[]⟩] := by rw [hw3]; exact claim_row ⟨fallC, 56, #[.pointer (some ⟨b2, 0, none⟩)], 49, #[]⟩ w2 56
  have HC := hid (firstWrong_calls es [⟨fallC, 56, #[.pointer (some ⟨b2, 0, none⟩)], 49, #[]⟩] hn (by simp) av (.slice (some ⟨w2.heap.size, 0, none⟩) 1 1) w3 HFav_3.out hrow (fun d hd => by rw [List.mem_singleton.1 hd]; exact ⟨enter_isof, enter_falls⟩) (fun d hd => by rw [List.mem_singleton.1 hd]; exact asks_isof (by simp) HFs_3.out rfl rfl rfl) (fun d hd => by rw [List.mem_singleton.1 hd]; exact ans_falls rfl rfl rfl))
  clear hrow
  have HW3 := hid hw3
  clear hw3 hb3
  go_wp2_with (go_at_call 37; rw [← HW3.out]; refine (HC.out).mono ?_; rintro e w4 ⟨⟨r, rfl, hr⟩, hb4⟩; refine Hid.out ?_)
  refine hid ?_
  have HB4 := hid (HB3.out.trans (hb4.mono HB3.out.size))
  have HR := hid hr
  clear hr hb4
  go_wp2
  go_ret
  exact ⟨⟨r, rfl, HR.out⟩, HB4.out⟩

end Go.Proofs.Ytedmancgpjpecaa
