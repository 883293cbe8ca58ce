/- The claims' functions: what each of them answers. -/
import Derived.Test.YtedmancgpjpecaaAudFirst
namespace Go.Proofs.Ytedmancgpjpecaa
open Go.RowKit
open Go.Lib (hid)

def encInt (x : Int) : List Value := [.int .i64 x]

theorem at_box {w w' : World} {b : Nat} {x : Value} (hb : Below w.heap.size w w') (hl : b < w.heap.size) (h : w.cell? ⟨b, 0, none⟩ = some x) : w'.cell? ⟨b, 0, none⟩ = some x := (hb.cell (p := ⟨b, 0, none⟩) hl).trans h

theorem two_below_al (w : World) (x y : Obj) : Below w.heap.size w ((w.alloc x).alloc y) := ((Below.refl _ _).alloc (Nat.le_refl _) _).alloc (by simp) _

set_option maxRecDepth 20000 in
set_option maxHeartbeats 2000000 in
theorem index_ints (ks : List Int) (x : Int) (hn : ks.length ≤ 100) (v : Value) (w : World) (h : FRow encInt 1 w v ks) :
    Calls Try.prog 67 #[v, .int .i64 x] w fun e w' => (∃ r : Int, e = .returned (.int .i64 r) ∧ decide (0 ≤ r) = ks.contains x ∧ r ≤ 100) ∧ w' = w := by
  obtain ⟨p, c, rfl, _, hp⟩ := h
  have HP := hid hp
  clear hp
  go_enter Try.func67, Try.ntmps67
  go_wp2
  go_loopw [8] (fun iv wr => ∃ i : Nat, i ≤ ks.length ∧ iv = .int .i64 i ∧ w = wr ∧ Hid (ks.contains x = (ks.drop i).contains x)) (fun iv _ => ks.length - (RowKit.intOf iv).toNat)
  case atStart => exact ⟨0, Nat.zero_le _, rfl, rfl, hid rfl⟩
  case round =>
    obtain ⟨i, hi, rfl, rfl, HI⟩ := hrel
    by_cases hlt : i < ks.length
    · have hne : ks ≠ [] := fun h => by rw [h] at hlt; cases hlt
      obtain ⟨g, o, rfl, hg, hc⟩ := HP.out hne
      have b1 : (0 : Int) ≤ (i : Int) := by omega
      have b2 : (i : Int) < (ks.length : Int) := by omega
      have k0 : w.cell? ⟨g, o + i, none⟩ = some (.int .i64 ks[i]) := by have := hc i hlt 0 (by decide); rw [Nat.mul_one, Nat.add_zero] at this; exact this
      have HD := hid (show (ks.drop i).contains x = ((x == ks[i]) || (ks.drop (i + 1)).contains x) by rw [List.drop_eq_getElem_cons hlt, List.contains_cons])
      clear hc
      generalize ks[i] = y at *
      cases hxy : (x == y) with
      | true =>
        rw [hxy] at HD
        go_wp2
        go_ret
        refine ⟨⟨(i : Int), rfl, ?_, by omega⟩, by first | rfl | trivial⟩
        rw [HI.out, HD.out, decide_eq_true (by omega)]
        rfl
      | false =>
        rw [hxy] at HD
        go_wp2
        go_roundw
        case rel => exact ⟨i + 1, by omega, by go_num, by first | rfl | trivial, hid (by rw [HI.out, HD.out]; rfl)⟩
        case measure => simp [RowKit.intOf]; omega
    · have hie : i = ks.length := by omega
      subst hie
      go_wp2
      go_ret
      refine ⟨⟨-1, rfl, ?_, by omega⟩, by first | rfl | trivial⟩
      rw [HI.out, List.drop_of_length_le (Nat.le_refl _)]
      rfl

theorem contains_ints (ks : List Int) (x : Int) (hn : ks.length ≤ 100) (v : Value) (w : World) (h : FRow encInt 1 w v ks) :
    Calls Try.prog 57 #[v, .int .i64 x] w fun e w' => e = .returned (.bool (ks.contains x)) ∧ w' = w := by
  have HC := hid (index_ints ks x hn v w h)
  clear h
  generalize ks.contains x = b at *
  go_enter Try.func57, Try.ntmps57
  go_wp2_with (go_at_call 67; refine (HC.out).mono ?_; rintro e w2 ⟨⟨r, rfl, hr, hr2⟩, rfl⟩; refine Hid.out ?_)
  refine hid ?_
  have HR := hid hr
  clear hr
  go_wp2
  go_ret
  exact ⟨by first | rfl | (rw [HR.out]; done) | (rw [HR.out]; rfl), by first | rfl | trivial⟩

set_option maxRecDepth 20000 in
set_option maxHeartbeats 2000000 in
theorem isof1_calls (ks : List Int) (hn : ks.length ≤ 100) (f : FactD) (b : Nat) (v : Value) (w : World) (hb : b < w.heap.size) (hc : w.cell? ⟨b, 0, none⟩ = some v) (hv : FRow encInt 1 w v ks) :
    Calls Try.prog 56 #[.agg (encFact f).toArray, .pointer (some ⟨b, 0, none⟩)] w fun e w' => e = .returned (.bool (ks.contains f.v.kind)) ∧ Below w.heap.size w w' := by
  obtain ⟨⟨x0, x1, x2, x3, lx, x5⟩, px, cx⟩ := f
  dsimp only [encFact]
  obtain ⟨p, c, rfl, hpc, hp⟩ := hv
  have hb1 : Below w.heap.size w (w.alloc (.cells #[.int .i64 x0, .int .i64 x1, .int .i64 x2, .string x3, .slice px lx.length cx, .bool x5] 47)) := (Below.refl _ _).alloc (Nat.le_refl _) _
  have k0 := at_box hb1 hb hc
  have HC := hid (contains_ints ks x0 hn (.slice p ks.length c) _ (FRow.on ⟨p, c, rfl, hpc, hp⟩ hb1))
  have HB := hid hb1
  clear hb1 hp
  generalize ks.contains x0 = r at *
  go_enter Try.func56, Try.ntmps56
  go_wp2_with (go_at_call 57; refine (HC.out).mono ?_; rintro e w2 ⟨rfl, rfl⟩; refine Hid.out ?_)
  refine hid ?_
  go_wp2
  go_ret
  exact ⟨rfl, HB.out⟩

set_option maxRecDepth 20000 in
set_option maxHeartbeats 2000000 in
theorem hastext_calls (f o : FactD) (v : Value) (kind : Int) (b : Nat) (w : World) (hb : b < w.heap.size) (hc : w.cell? ⟨b, 0, none⟩ = some (.int .i64 kind)) :
    Calls Try.prog 58 #[.agg (encFact f).toArray, .agg (encFact o).toArray, v, .pointer (some ⟨b, 0, none⟩)] w fun e w' => e = .returned (.bool ((o.v.kind == kind) && (o.v.text.toList == f.v.text.toList))) ∧ Below w.heap.size w w' := by
  obtain ⟨⟨x0, x1, x2, x3, lx, x5⟩, px, cx⟩ := f
  obtain ⟨⟨y0, y1, y2, y3, ly, y5⟩, py, cy⟩ := o
  dsimp only [encFact]
  have q0 := at_box (two_below_al w (.cells #[.int .i64 x0, .int .i64 x1, .int .i64 x2, .string x3, .slice px lx.length cx, .bool x5] 47) (.cells #[.int .i64 y0, .int .i64 y1, .int .i64 y2, .string y3, .slice py ly.length cy, .bool y5] 47)) hb hc
  cases hk : (y0 == kind)
  case false =>
    cases ht : (y3.toList == x3.toList)
    case false =>
      have HRES := hid (show ((y0 == kind) && (y3.toList == x3.toList)) = false by rw [hk, ht]; rfl)
      go_enter Try.func58, Try.ntmps58
      go_wp2
      go_ret
      exact ⟨by first | rfl | (rw [HRES.out]; done) | (rw [HRES.out]; rfl), two_below_al _ _ _⟩
    case true =>
      have HRES := hid (show ((y0 == kind) && (y3.toList == x3.toList)) = false by rw [hk, ht]; rfl)
      go_enter Try.func58, Try.ntmps58
      go_wp2
      go_ret
      exact ⟨by first | rfl | (rw [HRES.out]; done) | (rw [HRES.out]; rfl), two_below_al _ _ _⟩
  case true =>
    cases ht : (y3.toList == x3.toList)
    case false =>
      have HRES := hid (show ((y0 == kind) && (y3.toList == x3.toList)) = false by rw [hk, ht]; rfl)
      go_enter Try.func58, Try.ntmps58
      go_wp2
      go_ret
      exact ⟨by first | rfl | (rw [HRES.out]; done) | (rw [HRES.out]; rfl), two_below_al _ _ _⟩
    case true =>
      have HRES := hid (show ((y0 == kind) && (y3.toList == x3.toList)) = true by rw [hk, ht]; rfl)
      go_enter Try.func58, Try.ntmps58
      go_wp2
      go_ret
      exact ⟨by first | rfl | (rw [HRES.out]; done) | (rw [HRES.out]; rfl), two_below_al _ _ _⟩

set_option maxRecDepth 20000 in
set_option maxHeartbeats 2000000 in
theorem found_calls (f o : FactD) (v : Value) (w : World) :
    Calls Try.prog 51 #[.agg (encFact f).toArray, .agg (encFact o).toArray, v] w fun e w' => e = .returned (.bool ((o.v.kind == 6) && o.v.good && (o.v.text.toList == f.v.text.toList) && (o.v.number == f.v.number))) ∧ Below w.heap.size w w' := by
  obtain ⟨⟨x0, x1, x2, x3, lx, x5⟩, px, cx⟩ := f
  obtain ⟨⟨y0, y1, y2, y3, ly, y5⟩, py, cy⟩ := o
  dsimp only [encFact]

  cases hk : (y0 == 6)
  case false =>
    cases y5
    case false =>
      cases ht : (y3.toList == x3.toList)
      case false =>
        cases hn : (y2 == x2)
        case false =>
          have HRES := hid (show ((y0 == 6) && false && (y3.toList == x3.toList) && (y2 == x2)) = false by rw [hk, ht, hn]; rfl)
          go_enter Try.func51, Try.ntmps51
          go_wp2
          go_ret
          exact ⟨by first | rfl | (rw [HRES.out]; done) | (rw [HRES.out]; rfl), two_below_al _ _ _⟩
        case true =>
          have HRES := hid (show ((y0 == 6) && false && (y3.toList == x3.toList) && (y2 == x2)) = false by rw [hk, ht, hn]; rfl)
          go_enter Try.func51, Try.ntmps51
          go_wp2
          go_ret
          exact ⟨by first | rfl | (rw [HRES.out]; done) | (rw [HRES.out]; rfl), two_below_al _ _ _⟩
      case true =>
        cases hn : (y2 == x2)
        case false =>
          have HRES := hid (show ((y0 == 6) && false && (y3.toList == x3.toList) && (y2 == x2)) = false by rw [hk, ht, hn]; rfl)
          go_enter Try.func51, Try.ntmps51
          go_wp2
          go_ret
          exact ⟨by first | rfl | (rw [HRES.out]; done) | (rw [HRES.out]; rfl), two_below_al _ _ _⟩
        case true =>
          have HRES := hid (show ((y0 == 6) && false && (y3.toList == x3.toList) && (y2 == x2)) = false by rw [hk, ht, hn]; rfl)
          go_enter Try.func51, Try.ntmps51
          go_wp2
          go_ret
          exact ⟨by first | rfl | (rw [HRES.out]; done) | (rw [HRES.out]; rfl), two_below_al _ _ _⟩
    case true =>
      cases ht : (y3.toList == x3.toList)
      case false =>
        cases hn : (y2 == x2)
        case false =>
          have HRES := hid (show ((y0 == 6) && true && (y3.toList == x3.toList) && (y2 == x2)) = false by rw [hk, ht, hn]; rfl)
          go_enter Try.func51, Try.ntmps51
          go_wp2
          go_ret
          exact ⟨by first | rfl | (rw [HRES.out]; done) | (rw [HRES.out]; rfl), two_below_al _ _ _⟩
        case true =>
          have HRES := hid (show ((y0 == 6) && true && (y3.toList == x3.toList) && (y2 == x2)) = false by rw [hk, ht, hn]; rfl)
          go_enter Try.func51, Try.ntmps51
          go_wp2
          go_ret
          exact ⟨by first | rfl | (rw [HRES.out]; done) | (rw [HRES.out]; rfl), two_below_al _ _ _⟩
      case true =>
        cases hn : (y2 == x2)
        case false =>
          have HRES := hid (show ((y0 == 6) && true && (y3.toList == x3.toList) && (y2 == x2)) = false by rw [hk, ht, hn]; rfl)
          go_enter Try.func51, Try.ntmps51
          go_wp2
          go_ret
          exact ⟨by first | rfl | (rw [HRES.out]; done) | (rw [HRES.out]; rfl), two_below_al _ _ _⟩
        case true =>
          have HRES := hid (show ((y0 == 6) && true && (y3.toList == x3.toList) && (y2 == x2)) = false by rw [hk, ht, hn]; rfl)
          go_enter Try.func51, Try.ntmps51
          go_wp2
          go_ret
          exact ⟨by first | rfl | (rw [HRES.out]; done) | (rw [HRES.out]; rfl), two_below_al _ _ _⟩
  case true =>
    cases y5
    case false =>
      cases ht : (y3.toList == x3.toList)
      case false =>
        cases hn : (y2 == x2)
        case false =>
          have HRES := hid (show ((y0 == 6) && false && (y3.toList == x3.toList) && (y2 == x2)) = false by rw [hk, ht, hn]; rfl)
          go_enter Try.func51, Try.ntmps51
          go_wp2
          go_ret
          exact ⟨by first | rfl | (rw [HRES.out]; done) | (rw [HRES.out]; rfl), two_below_al _ _ _⟩
        case true =>
          have HRES := hid (show ((y0 == 6) && false && (y3.toList == x3.toList) && (y2 == x2)) = false by rw [hk, ht, hn]; rfl)
          go_enter Try.func51, Try.ntmps51
          go_wp2
          go_ret
          exact ⟨by first | rfl | (rw [HRES.out]; done) | (rw [HRES.out]; rfl), two_below_al _ _ _⟩
      case true =>
        cases hn : (y2 == x2)
        case false =>
          have HRES := hid (show ((y0 == 6) && false && (y3.toList == x3.toList) && (y2 == x2)) = false by rw [hk, ht, hn]; rfl)
          go_enter Try.func51, Try.ntmps51
          go_wp2
          go_ret
          exact ⟨by first | rfl | (rw [HRES.out]; done) | (rw [HRES.out]; rfl), two_below_al _ _ _⟩
        case true =>
          have HRES := hid (show ((y0 == 6) && false && (y3.toList == x3.toList) && (y2 == x2)) = false by rw [hk, ht, hn]; rfl)
          go_enter Try.func51, Try.ntmps51
          go_wp2
          go_ret
          exact ⟨by first | rfl | (rw [HRES.out]; done) | (rw [HRES.out]; rfl), two_below_al _ _ _⟩
    case true =>
      cases ht : (y3.toList == x3.toList)
      case false =>
        cases hn : (y2 == x2)
        case false =>
          have HRES := hid (show ((y0 == 6) && true && (y3.toList == x3.toList) && (y2 == x2)) = false by rw [hk, ht, hn]; rfl)
          go_enter Try.func51, Try.ntmps51
          go_wp2
          go_ret
          exact ⟨by first | rfl | (rw [HRES.out]; done) | (rw [HRES.out]; rfl), two_below_al _ _ _⟩
        case true =>
          have HRES := hid (show ((y0 == 6) && true && (y3.toList == x3.toList) && (y2 == x2)) = false by rw [hk, ht, hn]; rfl)
          go_enter Try.func51, Try.ntmps51
          go_wp2
          go_ret
          exact ⟨by first | rfl | (rw [HRES.out]; done) | (rw [HRES.out]; rfl), two_below_al _ _ _⟩
      case true =>
        cases hn : (y2 == x2)
        case false =>
          have HRES := hid (show ((y0 == 6) && true && (y3.toList == x3.toList) && (y2 == x2)) = false by rw [hk, ht, hn]; rfl)
          go_enter Try.func51, Try.ntmps51
          go_wp2
          go_ret
          exact ⟨by first | rfl | (rw [HRES.out]; done) | (rw [HRES.out]; rfl), two_below_al _ _ _⟩
        case true =>
          have HRES := hid (show ((y0 == 6) && true && (y3.toList == x3.toList) && (y2 == x2)) = true by rw [hk, ht, hn]; rfl)
          go_enter Try.func51, Try.ntmps51
          go_wp2
          go_ret
          exact ⟨by first | rfl | (rw [HRES.out]; done) | (rw [HRES.out]; rfl), two_below_al _ _ _⟩

/-- A slice of one number, and of two, as the program lays it. -/
theorem enter_isof : Enters 56 := fun _ _ => rfl
theorem enter_text : Enters 58 := fun _ _ => rfl
theorem enter_found : Enters 51 := fun _ _ => rfl

theorem isof_calls (p : Option Addr) (n c : Nat) (w : World) : Calls Try.prog 38 #[.slice p n c] w fun e w' => ∃ b, e = .returned (.func (.func 56) #[] #[.pointer (some ⟨b, 0, none⟩)]) ∧ Below w.heap.size w w' ∧ b < w'.heap.size ∧ w'.cell? ⟨b, 0, none⟩ = some (.slice p n c) := by
  have hmf : ∀ (fn : Fn) (first cap : Array Value) (w : World), (Instr.makeFunc fn first cap).run Try.prog w = .ok (.func fn first cap) w := fun _ _ _ _ => rfl
  have H := hid (show (w.alloc (.cells #[.slice p n c] 36)).cell? ⟨w.heap.size, 0, none⟩ = some (.slice p n c) from (cell_of_row _ _ 0 _ _ _ (heap_alloc_new _ _)).trans rfl)
  go_enter Try.func38, Try.ntmps38
  go_wp2
  go_ret
  exact ⟨_, rfl, (Below.refl _ _).alloc (Nat.le_refl _) _, by simp, H.out⟩

theorem texts_calls (k : Int) (w : World) : Calls Try.prog 39 #[.int .i64 k] w fun e w' => ∃ b, e = .returned (.func (.func 58) #[] #[.pointer (some ⟨b, 0, none⟩)]) ∧ Below w.heap.size w w' ∧ b < w'.heap.size ∧ w'.cell? ⟨b, 0, none⟩ = some (.int .i64 k) := by
  have hmf : ∀ (fn : Fn) (first cap : Array Value) (w : World), (Instr.makeFunc fn first cap).run Try.prog w = .ok (.func fn first cap) w := fun _ _ _ _ => rfl
  have H := hid (show (w.alloc (.cells #[.int .i64 k] 2)).cell? ⟨w.heap.size, 0, none⟩ = some (.int .i64 k) from (cell_of_row _ _ 0 _ _ _ (heap_alloc_new _ _)).trans rfl)
  go_enter Try.func39, Try.ntmps39
  go_wp2
  go_ret
  exact ⟨_, rfl, (Below.refl _ _).alloc (Nat.le_refl _) _, by simp, H.out⟩

/-- Of which kinds a claim is, and what it looks for ahead. -/
def isofOk (ks : List Int) (w : World) (v : Array Value) : Prop := ∃ b x, v = #[.pointer (some ⟨b, 0, none⟩)] ∧ b < w.heap.size ∧ w.cell? ⟨b, 0, none⟩ = some x ∧ FRow encInt 1 w x ks

def textOk (k : Int) (w : World) (v : Array Value) : Prop := ∃ b, v = #[.pointer (some ⟨b, 0, none⟩)] ∧ b < w.heap.size ∧ w.cell? ⟨b, 0, none⟩ = some (.int .i64 k)

theorem isofOk.on {ks : List Int} {w w' : World} {v : Array Value} (h : isofOk ks w v) (hb : Below w.heap.size w w') : isofOk ks w' v := by
  obtain ⟨b, x, rfl, h1, h2, h3⟩ := h
  exact ⟨b, x, rfl, Nat.lt_of_lt_of_le h1 hb.size, at_box hb h1 h2, h3.on hb⟩

theorem textOk.on {k : Int} {w w' : World} {v : Array Value} (h : textOk k w v) (hb : Below w.heap.size w w') : textOk k w' v := by
  obtain ⟨b, rfl, h1, h2⟩ := h
  exact ⟨b, rfl, Nat.lt_of_lt_of_le h1 hb.size, at_box hb h1 h2⟩

/-- A claim on facts of some kinds, answered by a fact of a kind with the same text. -/
def textC (ks : List Int) (k : Int) (wanted : Bool) : Claim := ⟨fun f => ks.contains f.kind, fun f o _ => (o.kind == k) && (o.text.toList == f.text.toList), wanted⟩

def foundC (ks : List Int) (wanted : Bool) : Claim := ⟨fun f => ks.contains f.kind, fun f o _ => (o.kind == 6) && o.good && (o.text.toList == f.text.toList) && (o.number == f.number), wanted⟩

theorem asks_isof {Q : FactV → Prop} {ks : List Int} (hn : ks.length ≤ 100) {w : World} {ca : Array Value} (h : isofOk ks w ca) {d : ClaimD} (hk : d.ka = 56) (hc : d.ca = ca) (ha : d.c.asks = fun f => ks.contains f.kind) : AsksOk Q w d := by
  intro W f hW _ _
  obtain ⟨b, x, rfl, h1, h2, h3⟩ := h.on hW
  rw [hk, hc, ha]
  exact isof1_calls ks hn f b x W h1 h2 h3

theorem ans_text {Q : FactV → Prop} {k : Int} {w : World} {cb : Array Value} (h : textOk k w cb) {d : ClaimD} (hk : d.kb = 58) (hc : d.cb = cb) (ha : d.c.answers = fun f o _ => (o.kind == k) && (o.text.toList == f.text.toList)) : AnsOk Q w d := by
  intro W f o v rest hW _ _ _ _ _ _
  obtain ⟨b, rfl, h1, h2⟩ := h.on hW
  rw [hk, hc, ha]
  exact hastext_calls f o v k b W h1 h2

theorem ans_found {Q : FactV → Prop} {w : World} {d : ClaimD} (hk : d.kb = 51) (hc : d.cb = #[]) (ha : d.c.answers = fun f o _ => (o.kind == 6) && o.good && (o.text.toList == f.text.toList) && (o.number == f.number)) : AnsOk Q w d := by
  intro W f o v rest hW _ _ _ _ _ _
  rw [hk, hc, ha]
  exact found_calls f o v W

theorem ints_at (ks : List Int) (w : World) (t : TypeId) : FRow encInt 1 (w.alloc (.cells (ks.map fun x => .int .i64 x).toArray t)) (.slice (some ⟨w.heap.size, 0, none⟩) ks.length ks.length) ks := by
  refine ⟨_, _, rfl, Nat.le_refl _, fun _ => ⟨w.heap.size, 0, rfl, by simp, fun i hi j hj => ?_⟩⟩
  have hj0 : j = 0 := by omega
  subst hj0
  rw [show 0 + i * 1 + 0 = i by omega]
  refine (cell_of_row _ _ i _ _ _ (heap_alloc_new _ _)).trans ?_
  simp [encInt, hi]

theorem claim_row (d : ClaimD) (w : World) (t : TypeId) : FRow encClaim 3 (w.alloc (.cells #[.func (.func d.ka) #[] d.ca, .func (.func d.kb) #[] d.cb, .bool d.c.wanted] t)) (.slice (some ⟨w.heap.size, 0, none⟩) 1 1) [d] := by
  refine ⟨_, _, rfl, Nat.le_refl _, fun _ => ⟨w.heap.size, 0, rfl, by simp, fun i hi j hj => ?_⟩⟩
  have hi0 : i = 0 := by simp at hi; exact hi
  subst hi0
  rw [show 0 + 0 * 3 + j = j by omega]
  refine (cell_of_row _ _ j _ _ _ (heap_alloc_new _ _)).trans ?_
  rcases j with _ | _ | _ | j
  · rfl
  · rfl
  · rfl
  · omega

end Go.Proofs.Ytedmancgpjpecaa
