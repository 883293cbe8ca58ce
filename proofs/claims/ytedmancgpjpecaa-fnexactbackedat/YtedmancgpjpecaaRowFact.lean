/- Rows of Facts, each with a row of Images inside: their size, a copy, two held against each other, one that came in. -/
import Derived.Test.YtedmancgpjpecaaStFact
import Derived.Test.YtedmancgpjpecaaArgStFact
import Derived.Deep.RegionHeld3
namespace Go.Proofs.Ytedmancgpjpecaa
open Go.ChangeShapes Go.WideShapes Go.ChangeAt Go.RowKit
open Go.Lib (hid)

/-- What a Fact tells. -/
structure FactV where
  kind : Int
  place : Int
  number : Int
  text : ByteArray
  ims : List ImageD
  good : Bool

/-- A Fact as it lies: where its Images begin, and their room. -/
structure FactD where
  v : FactV
  p : Option Addr
  c : Nat

def FactD.im (e : FactD) : Value := .slice e.p e.v.ims.length e.c

def encFact (e : FactD) : List Value := [.int .i64 e.v.kind, .int .i64 e.v.place, .int .i64 e.v.number, .string e.v.text, .slice e.p e.v.ims.length e.c, .bool e.v.good]

theorem encFact_len (e : FactD) : (encFact e).length = 6 := rfl

theorem encFact_one (e : FactD) : ∀ v ∈ encFact e, v.oneCell' = true := by
  intro v hv
  simp only [encFact, List.mem_cons, List.not_mem_nil, or_false] at hv
  rcases hv with rfl | rfl | rfl | rfl | rfl | rfl <;> rfl

def zFact : FactD := ⟨⟨0, 0, 0, ⟨#[]⟩, [], false⟩, none, 0⟩

/-- Each number is one of 64 bits, each text and list one that can be. -/
def tameV (e : FactV) : Prop := e.text.size ≤ 9223372036854775807 ∧ (∀ x ∈ e.ims, tameImage x) ∧ e.ims.length ≤ maxLen ∧ (-9223372036854775808 ≤ e.kind ∧ e.kind ≤ 9223372036854775807)

def szV (e : FactV) : Nat := e.text.size + (e.ims.length + used szImageN e.ims)

/-- Facts that came in. -/
def FactsIn (w : World) (v : Value) (ds : List FactD) : Prop := FArg encFact 6 w v ds ∧ ∀ d ∈ ds, FArg encImage 2 w d.im d.v.ims

/-- Facts that are read. -/
def FactsAt (w : World) (v : Value) (ds : List FactD) : Prop := FRow encFact 6 w v ds ∧ ∀ d ∈ ds, FRow encImage 2 w d.im d.v.ims

/-- Facts in rows of their own, none of them shared. -/
def FactsOwn (base : Nat) (w : World) (v : Value) (ds : List FactD) : Prop :=
  w.ownsRow base 47 6 v ds.length (flat encFact ds) ∧ (∀ j, v.ownBlock = some j → j = base) ∧
  (∀ d ∈ ds, w.ownsRow (base + 1) 62 2 d.im d.v.ims.length (flat encImage d.v.ims)) ∧
  ds.Pairwise (fun a b => ∀ j k, a.im.ownBlock = some j → b.im.ownBlock = some k → j < k)

theorem FactsIn.on {w w' : World} {v : Value} {ds : List FactD} (h : FactsIn w v ds) (hb : Below w.heap.size w w') : FactsIn w' v ds := ⟨h.1.on hb, fun d hd => (h.2 d hd).on hb⟩

theorem FactsAt.on {w w' : World} {v : Value} {ds : List FactD} (h : FactsAt w v ds) (hb : Below w.heap.size w w') : FactsAt w' v ds := ⟨h.1.on hb, fun d hd => (h.2 d hd).on hb⟩

theorem FactsOwn.at {base : Nat} {w : World} {v : Value} {ds : List FactD} (h : FactsOwn base w v ds) : FactsAt w v ds :=
  ⟨row_of_own encFact_len h.1, fun d hd => row_of_own encImage_len (h.2.2.1 d hd)⟩

theorem FactsOwn.on {base : Nat} {w w' : World} {v : Value} {ds : List FactD} (h : FactsOwn base w v ds) (hb : Below w.heap.size w w') : FactsOwn base w' v ds :=
  ⟨own_below h.1 hb, h.2.1, fun d hd => own_below (h.2.2.1 d hd) hb, h.2.2.2⟩

theorem facts_none (w : World) : FactsAt w (.slice none 0 0) [] := ⟨row_nil _ _ _, fun d hd => by cases hd⟩

set_option maxRecDepth 100000 in
theorem opened_Fact {H : Type} {enc : TypeId × Value → H} {W : World} {base fuel : Nat} {spare : Nat → Bool} {held : Bool} {cs : List Value} {x : DataW H × List MemPlace}
    (hsp : ∀ k, spare k = true) (h : DataW.trod enc Try.prog W base spare held fuel 45 cs = some x) : ∃ d : FactD, cs = encFact d ∧ tameV d.v ∧ FArg encImage 2 W d.im d.v.ims := by
  obtain ⟨hl, n, hf⟩ := trod_flat (show Try.prog.underlying 45 = some (.struct #[_, _, _, _, _, _]) from Try.underlying45) (by kernel_rfl) (by kernel_rfl) h
  have m1 : IntKind.i64.min = -9223372036854775808 := rfl
  have m2 : IntKind.i64.max = 9223372036854775807 := rfl
  obtain ⟨v0, y0, e0, t0⟩ := hf 0 _ rfl
  obtain ⟨x0, q0, _, w0⟩ := DataW.trod_int Try.underlying2 t0
  injection q0 with q0 _
  subst q0
  have w02 : -9223372036854775808 ≤ x0 ∧ x0 ≤ 9223372036854775807 := by
    have h := w0
    simp [Lit.wf] at h
    omega
  obtain ⟨v1, y1, e1, t1⟩ := hf 1 _ rfl
  obtain ⟨x1, q1, _, _⟩ := DataW.trod_int Try.underlying2 t1
  injection q1 with q1 _
  subst q1
  obtain ⟨v2, y2, e2, t2⟩ := hf 2 _ rfl
  obtain ⟨x2, q2, _, _⟩ := DataW.trod_int Try.underlying2 t2
  injection q2 with q2 _
  subst q2
  obtain ⟨v3, y3, e3, t3⟩ := hf 3 _ rfl
  obtain ⟨x3, q3, _, w3⟩ := DataW.trod_string Try.underlying9 t3
  injection q3 with q3 _
  subst q3
  have w32 : x3.size ≤ 9223372036854775807 := by unfold maxLen at w3; exact w3
  obtain ⟨v4, y4, e4, t4⟩ := hf 4 _ rfl
  obtain ⟨l4, g4, u4, n4⟩ := arg_Images t4 hsp
  obtain ⟨v5, y5, e5, t5⟩ := hf 5 _ rfl
  obtain ⟨x5, q5, _⟩ := DataW.trod_bool Try.underlying4 t5
  injection q5 with q5 _
  subst q5
  have g4' := g4
  obtain ⟨p, c, rfl, _⟩ := g4
  refine ⟨⟨⟨x0, x1, x2, x3, l4, x5⟩, p, c⟩, ?_, ⟨w32, u4, n4, w02⟩, g4'⟩
  match cs, hl with
  | [c0, c1, c2, c3, c4, c5], _ =>
    simp at e0 e1 e2 e3 e4 e5
    subst e0 e1 e2 e3 e4 e5
    rfl

set_option maxRecDepth 100000 in
theorem arg_Facts {H : Type} {enc : TypeId × Value → H} {W : World} {base fuel : Nat} {spare : Nat → Bool} {held : Bool} {v : Value} {x : DataW H × List MemPlace}
    (h : DataW.trod enc Try.prog W base spare held fuel 22 [v] = some x) (hsp : ∀ k, spare k = true) : ∃ ds : List FactD, FactsIn W v ds ∧ (∀ d ∈ ds, tameV d.v) ∧ ds.length ≤ maxLen := by
  obtain ⟨ds, h1, h2, h3⟩ := arg_flat (ec := encFact) (Q := fun d => tameV d.v ∧ FArg encImage 2 W d.im d.v.ims) (k := 6) (by decide) Try.underlying22 (by kernel_rfl) (fun _ _ _ h => opened_Fact hsp h) h hsp
  exact ⟨ds, ⟨h1, fun d hd => (h2 d hd).2⟩, fun d hd => (h2 d hd).1, h3⟩

theorem same_v {ds fs : List FactD} (h : ds.map (·.v) = fs.map (·.v)) (i : Nat) (hi : i < ds.length) (hj : i < fs.length) : fs[i].v = ds[i].v := by
  have h1 : (ds.map (·.v))[i]? = (fs.map (·.v))[i]? := by rw [h]
  simp [hi, hj] at h1
  exact h1.symm

set_option maxRecDepth 20000 in
set_option maxHeartbeats 4000000 in
theorem eq_Facts (ds fs : List FactD) (hn : ds.length ≤ 100000000) (hs : ds.map (·.v) = fs.map (·.v)) (hm : ∀ d ∈ ds, d.v.ims.length ≤ 100000000) (a b : Value) (w : World) (ha : FactsAt w a ds) (hb : FactsAt w b fs) :
    Calls Try.prog 14 #[a, b] w fun e w' => e = .returned (.bool true) ∧ Below w.heap.size w w' := by
  have HIA := hid ha.2
  have HIB := hid hb.2
  have HM := hid hm
  have HSV := hid (fun i h1 h2 => same_v hs i h1 h2)
  have hfl : ds.length = fs.length := by simpa using congrArg List.length hs
  have HFL := hid hfl
  obtain ⟨⟨p, c, rfl, _, hp⟩, _⟩ := ha
  obtain ⟨⟨q, e, rfl, _, hq⟩, _⟩ := hb
  rw [← hfl]
  have HP := hid hp
  have HQ := hid hq
  clear hp hq hm hs hfl
  go_enter Try.func14, Try.ntmps14
  go_wp2
  go_loopw [5] (fun iv wr => ∃ i : Nat, i ≤ ds.length ∧ iv = .int .i64 i ∧ Below w.heap.size w wr) (fun iv _ => ds.length - (RowKit.intOf iv).toNat)
  case atStart => exact ⟨0, Nat.zero_le _, rfl, Below.refl _ _⟩
  case round =>
    obtain ⟨i, hi, rfl, hbel⟩ := hrel
    by_cases hlt : i < ds.length
    · have hlf : i < fs.length := by rw [← HFL.out]; exact hlt
      have hne : ds ≠ [] := fun h => by rw [h] at hlt; cases hlt
      have hnf : fs ≠ [] := fun h => by rw [h] at hlf; cases hlf
      obtain ⟨g, o, rfl, hg, hc⟩ := HP.out hne
      obtain ⟨g2, o2, rfl, hg2, hc2⟩ := HQ.out hnf
      have b1 : (0 : Int) ≤ (i : Int) := by omega
      have b2 : (i : Int) < (ds.length : Int) := by omega
      have hgw : g < wr.heap.size := Nat.lt_of_lt_of_le hg hbel.size
      have hg2w : g2 < wr.heap.size := Nat.lt_of_lt_of_le hg2 hbel.size
      have k0 : ∀ W : World, Below wr.heap.size wr W → W.cell? ⟨g, o + i * 6, none⟩ = some (.int .i64 ds[i].v.kind) := fun W hW => (hW.cell (p := ⟨g, o + i * 6, none⟩) hgw).trans ((hbel.cell (p := ⟨g, o + i * 6, none⟩) hg).trans (hc i hlt 0 (by decide)))
      have k1 : ∀ W : World, Below wr.heap.size wr W → W.cell? ⟨g, o + i * 6 + 1, none⟩ = some (.int .i64 ds[i].v.place) := fun W hW => (hW.cell (p := ⟨g, o + i * 6 + 1, none⟩) hgw).trans ((hbel.cell (p := ⟨g, o + i * 6 + 1, none⟩) hg).trans (hc i hlt 1 (by decide)))
      have k2 : ∀ W : World, Below wr.heap.size wr W → W.cell? ⟨g, o + i * 6 + 2, none⟩ = some (.int .i64 ds[i].v.number) := fun W hW => (hW.cell (p := ⟨g, o + i * 6 + 2, none⟩) hgw).trans ((hbel.cell (p := ⟨g, o + i * 6 + 2, none⟩) hg).trans (hc i hlt 2 (by decide)))
      have k3 : ∀ W : World, Below wr.heap.size wr W → W.cell? ⟨g, o + i * 6 + 3, none⟩ = some (.string ds[i].v.text) := fun W hW => (hW.cell (p := ⟨g, o + i * 6 + 3, none⟩) hgw).trans ((hbel.cell (p := ⟨g, o + i * 6 + 3, none⟩) hg).trans (hc i hlt 3 (by decide)))
      have k4 : ∀ W : World, Below wr.heap.size wr W → W.cell? ⟨g, o + i * 6 + 4, none⟩ = some (.slice ds[i].p ds[i].v.ims.length ds[i].c) := fun W hW => (hW.cell (p := ⟨g, o + i * 6 + 4, none⟩) hgw).trans ((hbel.cell (p := ⟨g, o + i * 6 + 4, none⟩) hg).trans (hc i hlt 4 (by decide)))
      have k5 : ∀ W : World, Below wr.heap.size wr W → W.cell? ⟨g, o + i * 6 + 5, none⟩ = some (.bool ds[i].v.good) := fun W hW => (hW.cell (p := ⟨g, o + i * 6 + 5, none⟩) hgw).trans ((hbel.cell (p := ⟨g, o + i * 6 + 5, none⟩) hg).trans (hc i hlt 5 (by decide)))
      have l0 : ∀ W : World, Below wr.heap.size wr W → W.cell? ⟨g2, o2 + i * 6, none⟩ = some (.int .i64 fs[i].v.kind) := fun W hW => (hW.cell (p := ⟨g2, o2 + i * 6, none⟩) hg2w).trans ((hbel.cell (p := ⟨g2, o2 + i * 6, none⟩) hg2).trans (hc2 i hlf 0 (by decide)))
      have l1 : ∀ W : World, Below wr.heap.size wr W → W.cell? ⟨g2, o2 + i * 6 + 1, none⟩ = some (.int .i64 fs[i].v.place) := fun W hW => (hW.cell (p := ⟨g2, o2 + i * 6 + 1, none⟩) hg2w).trans ((hbel.cell (p := ⟨g2, o2 + i * 6 + 1, none⟩) hg2).trans (hc2 i hlf 1 (by decide)))
      have l2 : ∀ W : World, Below wr.heap.size wr W → W.cell? ⟨g2, o2 + i * 6 + 2, none⟩ = some (.int .i64 fs[i].v.number) := fun W hW => (hW.cell (p := ⟨g2, o2 + i * 6 + 2, none⟩) hg2w).trans ((hbel.cell (p := ⟨g2, o2 + i * 6 + 2, none⟩) hg2).trans (hc2 i hlf 2 (by decide)))
      have l3 : ∀ W : World, Below wr.heap.size wr W → W.cell? ⟨g2, o2 + i * 6 + 3, none⟩ = some (.string fs[i].v.text) := fun W hW => (hW.cell (p := ⟨g2, o2 + i * 6 + 3, none⟩) hg2w).trans ((hbel.cell (p := ⟨g2, o2 + i * 6 + 3, none⟩) hg2).trans (hc2 i hlf 3 (by decide)))
      have l4 : ∀ W : World, Below wr.heap.size wr W → W.cell? ⟨g2, o2 + i * 6 + 4, none⟩ = some (.slice fs[i].p fs[i].v.ims.length fs[i].c) := fun W hW => (hW.cell (p := ⟨g2, o2 + i * 6 + 4, none⟩) hg2w).trans ((hbel.cell (p := ⟨g2, o2 + i * 6 + 4, none⟩) hg2).trans (hc2 i hlf 4 (by decide)))
      have l5 : ∀ W : World, Below wr.heap.size wr W → W.cell? ⟨g2, o2 + i * 6 + 5, none⟩ = some (.bool fs[i].v.good) := fun W hW => (hW.cell (p := ⟨g2, o2 + i * 6 + 5, none⟩) hg2w).trans ((hbel.cell (p := ⟨g2, o2 + i * 6 + 5, none⟩) hg2).trans (hc2 i hlf 5 (by decide)))
      have HR1 := hid (fun W (hW : Below w.heap.size w W) => (HIA.out ds[i] (List.getElem_mem hlt)).on hW)
      have HR2 := hid (fun W (hW : Below w.heap.size w W) => (HIB.out fs[i] (List.getElem_mem hlf)).on hW)
      have HMI := hid (HM.out ds[i] (List.getElem_mem hlt))
      have hsv := HSV.out i hlt hlf
      clear hc hc2
      have HB := hid hbel
      clear hbel
      generalize ds[i] = d1 at *
      generalize fs[i] = d2 at *
      obtain ⟨v1, p, c⟩ := d1
      obtain ⟨v2, q, d⟩ := d2
      have hsv' : v2 = v1 := hsv
      subst hsv'
      clear hsv
      obtain ⟨x0, x1, x2, x3, l, x5⟩ := v2
      have CE := hid (fun (W : World) (hW : Below wr.heap.size wr W) => eq_Fact x0 x1 x2 x3 l x5 HMI.out (.slice p l.length c) (.slice q l.length d) W (HR1.out W (HB.out.trans (hW.mono HB.out.size))) (HR2.out W (HB.out.trans (hW.mono HB.out.size))))
      dsimp only at k0 l0 k1 l1 k2 l2 k3 l3 k4 l4 k5 l5
      go_wp2
      go_region_held3 (fun w' => Below wr.heap.size wr w') (first | with_reducible assumption | exact Below.drew (Below.refl _ _) | exact below_hop (by assumption) (by simp) (by assumption)) ((go_at_call 40; refine (CE.out _ (by with_reducible assumption)).mono ?_; rintro e w5 ⟨rfl, hb5⟩))
      rename_i hS
      have HS := hid (HB.out.trans (hS.mono HB.out.size))
      clear hS hb5
      go_wp2
      go_roundw
      case rel => exact ⟨i + 1, by omega, by go_num, HS.out⟩
      case measure => simp [RowKit.intOf]; omega
    · have hie : i = ds.length := by omega
      subst hie
      go_wp2
      go_ret
      exact ⟨rfl, hbel⟩

set_option maxRecDepth 20000 in
set_option maxHeartbeats 4000000 in
theorem sz_Facts (ds : List FactD) (hs : ∀ d ∈ ds, tameV d.v) (hm : ds.length ≤ maxLen) (k : Nat) (hk : k ≤ 1048576) (a : Value) (w : World) (ha : FactsIn w a ds) :
    Calls Try.prog 10 #[a, .int .i64 k] w fun e w' => (∃ r : Int, e = .returned (.int .i64 r) ∧ (r < 0 ∨ 0 ≤ r ∧ r + ((ds.length + used (fun d => szV d.v) ds : Nat) : Int) = (k : Int))) ∧ Below w.heap.size w w' := by
  have HIN := hid ha.2
  obtain ⟨⟨p, c, rfl, hp⟩, _⟩ := ha
  have HP := hid hp
  have HS := hid hs
  unfold maxLen at hm
  clear hp hs
  by_cases hl : ds.length ≤ k
  · go_enter Try.func10, Try.ntmps10
    go_wp2
    go_loopw [1, 5] (fun lv iv wr => ∃ i r : Nat, i ≤ ds.length ∧ iv = .int .i64 i ∧ lv = .int .i64 r ∧ r ≤ 1048576 ∧ Below w.heap.size w wr ∧ Hid ((r : Int) = (k : Int) - (ds.length : Int) - (used (fun d => szV d.v) (ds.take i) : Int))) (fun _ iv _ => ds.length - (RowKit.intOf iv).toNat)
    case atStart =>
      refine ⟨0, k - ds.length, Nat.zero_le _, rfl, ?_, by omega, Below.refl _ _, hid ?_⟩
      · rw [show ((k - ds.length : Nat) : Int) = (k : Int) - (ds.length : Int) by omega]
      · simp [used]; omega
    case round =>
      obtain ⟨i, r, hi, rfl, rfl, hr1, hbel, HR⟩ := hrel
      have HB := hid hbel
      by_cases hlt : i < ds.length
      · obtain ⟨ad, rfl, hbl, hc⟩ := HP.out i hlt
        have c0 : wr.cell? (ad.add (i * 6)) = some (.int .i64 ds[i].v.kind) := by
          rw [show ad.add (i * 6) = ad.add (i * 6 + 0) from rfl]
          rw [hbel.cell (p := ad.add (i * 6 + 0)) (by rw [add_block]; exact hbl)]
          exact hc 0 (by decide)
        have c1 : wr.cell? ⟨(ad.add (i * 6)).block, (ad.add (i * 6)).off + 1, none⟩ = some (.int .i64 ds[i].v.place) := by
          rw [add_at, if_neg (by omega)]
          rw [hbel.cell (p := ad.add (i * 6 + 1)) (by rw [add_block]; exact hbl)]
          exact hc 1 (by decide)
        have c2 : wr.cell? ⟨(ad.add (i * 6)).block, (ad.add (i * 6)).off + 2, none⟩ = some (.int .i64 ds[i].v.number) := by
          rw [add_at, if_neg (by omega)]
          rw [hbel.cell (p := ad.add (i * 6 + 2)) (by rw [add_block]; exact hbl)]
          exact hc 2 (by decide)
        have c3 : wr.cell? ⟨(ad.add (i * 6)).block, (ad.add (i * 6)).off + 3, none⟩ = some (.string ds[i].v.text) := by
          rw [add_at, if_neg (by omega)]
          rw [hbel.cell (p := ad.add (i * 6 + 3)) (by rw [add_block]; exact hbl)]
          exact hc 3 (by decide)
        have c4 : wr.cell? ⟨(ad.add (i * 6)).block, (ad.add (i * 6)).off + 4, none⟩ = some (.slice ds[i].p ds[i].v.ims.length ds[i].c) := by
          rw [add_at, if_neg (by omega)]
          rw [hbel.cell (p := ad.add (i * 6 + 4)) (by rw [add_block]; exact hbl)]
          exact hc 4 (by decide)
        have c5 : wr.cell? ⟨(ad.add (i * 6)).block, (ad.add (i * 6)).off + 5, none⟩ = some (.bool ds[i].v.good) := by
          rw [add_at, if_neg (by omega)]
          rw [hbel.cell (p := ad.add (i * 6 + 5)) (by rw [add_block]; exact hbl)]
          exact hc 5 (by decide)
        have hx := HS.out ds[i] (List.getElem_mem hlt)
        have HRI := hid ((HIN.out ds[i] (List.getElem_mem hlt)).on hbel)
        have HTK := hid (used_take (fun d : FactD => szV d.v) ds i hlt)
        clear hbel hc
        generalize ds[i] = di at *
        obtain ⟨⟨x0, x1, x2, x3, l, x5⟩, p, c⟩ := di
        obtain ⟨hx0, hx1, hx2, _⟩ := hx
        have CS := hid (fun (W : World) (hW : Below wr.heap.size wr W) => sz_Fact x0 x1 x2 x3 l x5 hx0 hx1 hx2 r hr1 (.slice p l.length c) W (HRI.out.on hW))
        clear hx0 hx1 hx2
        dsimp only at c0 c1 c2 c3 c4 c5
        go_wp2_with (go_at_call 34; refine (CS.out _ (Below.refl _ _)).mono ?_; rintro e w5 ⟨⟨r2, rfl, hr2⟩, hb5⟩; refine Hid.out ?_)
        refine hid ?_
        have HB5 := hid (HB.out.trans (hb5.mono HB.out.size))
        clear hb5 c0 c1 c2 c3 c4 c5
        rcases hr2 with hr2 | ⟨hr2, hr3⟩
        · go_wp2
          go_ret
          exact ⟨⟨-1, rfl, Or.inl (by omega)⟩, HB5.out⟩
        · obtain ⟨r3, rfl⟩ := Int.eq_ofNat_of_zero_le hr2
          have hr4 : r3 ≤ 1048576 := by omega
          have hr5 : ¬ ((r3 : Nat) : Int) < 0 := by omega
          have HR3 := hid hr3
          clear hr3
          go_wp2
          go_roundw
          case rel => exact ⟨i + 1, r3, by omega, by go_num, rfl, by omega, HB5.out, hid (by have h1 := HR.out; have h2 := HR3.out; rw [HTK.out]; simp only [szV] at *; omega)⟩
          case measure => simp [RowKit.intOf]; omega
      · have hie : i = ds.length := by omega
        subst hie
        clear hbel
        go_wp2
        go_ret
        refine ⟨⟨(r : Int), rfl, Or.inr ⟨by omega, ?_⟩⟩, HB.out⟩
        have := HR.out
        rw [List.take_of_length_le (Nat.le_refl _)] at this
        omega
  · go_enter Try.func10, Try.ntmps10
    go_wp2
    go_ret
    exact ⟨⟨-1, rfl, Or.inl (by omega)⟩, Below.refl _ _⟩

theorem form_own {w : World} {base n size : Nat} {t : TypeId} {sv : Value} {xs : List Value} (h : w.ownsRow base t size sv n xs) : ∃ p c, sv = .slice p n c ∧ n ≤ c := by
  rcases h.2 with ⟨hv, hz⟩ | ⟨g, cap, cur, e1, _, _, hle, _⟩
  · exact ⟨none, 0, by rw [hv, hz], by omega⟩
  · exact ⟨_, _, e1, hle⟩

/-- Facts of which the first are there. -/
def mid (fs : List FactD) (n : Nat) : List FactD := fs ++ List.replicate (n - fs.length) zFact

theorem mid_len (fs : List FactD) (n : Nat) (h : fs.length ≤ n) : (mid fs n).length = n := by unfold mid; simp; omega
theorem mid_nil (n : Nat) : mid [] n = List.replicate n zFact := by simp [mid]
theorem mid_all (fs : List FactD) : mid fs fs.length = fs := by simp [mid]
theorem mid_set (fs : List FactD) (n : Nat) (d : FactD) (h : fs.length < n) : (mid fs n).set fs.length d = mid (fs ++ [d]) n := by
  unfold mid
  rw [List.set_append_right _ _ (Nat.le_refl _), Nat.sub_self, show n - fs.length = (n - (fs ++ [d]).length) + 1 by simp; omega, List.replicate_succ, List.set_cons_zero, List.append_assoc]
  rfl

theorem infoFact : (Try.prog.info? 47).map (fun i => (i.zero, i.size, i.bytes)) = some (some (.agg #[Value.int .i64 0, Value.int .i64 0, Value.int .i64 0, Value.string ⟨#[]⟩, Value.slice none 0 0, Value.bool false]), 6, 72) := by kernel_rfl

/-- A Fact put behind the ones that are there. -/
theorem own_put {w : World} {W : World} {n : Nat} {fs : List FactD} {i : Nat} (hfi : fs.length = i) (hi : i < n) (d : FactD) (ho : W.ownsRow w.heap.size 47 6 (.slice (some ⟨w.heap.size, 0, none⟩) n n) n (flat encFact (mid fs n))) :
    (((((((W.setCell ⟨w.heap.size, i * 6, none⟩ (.int .i64 d.v.kind)).setCell ⟨w.heap.size, i * 6 + 1, none⟩ (.int .i64 d.v.place)).setCell ⟨w.heap.size, i * 6 + 2, none⟩ (.int .i64 d.v.number)).setCell ⟨w.heap.size, i * 6 + 3, none⟩ (.string d.v.text)).setCell ⟨w.heap.size, i * 6 + 4, none⟩ (.slice d.p d.v.ims.length d.c)).setCell ⟨w.heap.size, i * 6 + 5, none⟩ (.bool d.v.good))).ownsRow w.heap.size 47 6 (.slice (some ⟨w.heap.size, 0, none⟩) n n) n (flat encFact (mid (fs ++ [d]) n)) := by
  have h2 := ((((((ho.stored (i * 6) (.int .i64 d.v.kind)).1.stored (i * 6 + 1) (.int .i64 d.v.place)).1.stored (i * 6 + 2) (.int .i64 d.v.number)).1.stored (i * 6 + 3) (.string d.v.text)).1.stored (i * 6 + 4) (.slice d.p d.v.ims.length d.c)).1.stored (i * 6 + 5) (.bool d.v.good)).1
  subst hfi
  rw [← mid_set fs n d hi, ← setMany_flat encFact_len (mid fs n) fs.length (by rw [mid_len _ _ (by omega)]; exact hi)]
  exact h2

theorem below_put {w W : World} (h : Below w.heap.size w W) (i : Nat) (d : FactD) : Below w.heap.size w (((((((W.setCell ⟨w.heap.size, i * 6, none⟩ (.int .i64 d.v.kind)).setCell ⟨w.heap.size, i * 6 + 1, none⟩ (.int .i64 d.v.place)).setCell ⟨w.heap.size, i * 6 + 2, none⟩ (.int .i64 d.v.number)).setCell ⟨w.heap.size, i * 6 + 3, none⟩ (.string d.v.text)).setCell ⟨w.heap.size, i * 6 + 4, none⟩ (.slice d.p d.v.ims.length d.c)).setCell ⟨w.heap.size, i * 6 + 5, none⟩ (.bool d.v.good))) := by
  exact ((((((h.setCell (p := ⟨w.heap.size, i * 6, none⟩) (Nat.le_refl _) _).setCell (p := ⟨w.heap.size, i * 6 + 1, none⟩) (Nat.le_refl _) _).setCell (p := ⟨w.heap.size, i * 6 + 2, none⟩) (Nat.le_refl _) _).setCell (p := ⟨w.heap.size, i * 6 + 3, none⟩) (Nat.le_refl _) _).setCell (p := ⟨w.heap.size, i * 6 + 4, none⟩) (Nat.le_refl _) _).setCell (p := ⟨w.heap.size, i * 6 + 5, none⟩) (Nat.le_refl _) _)

theorem other_put {w W : World} {i m : Nat} {xs : List Value} {v : Value} (h : W.ownsRow (w.heap.size + 1) 62 2 v m xs) (d : FactD) : (((((((W.setCell ⟨w.heap.size, i * 6, none⟩ (.int .i64 d.v.kind)).setCell ⟨w.heap.size, i * 6 + 1, none⟩ (.int .i64 d.v.place)).setCell ⟨w.heap.size, i * 6 + 2, none⟩ (.int .i64 d.v.number)).setCell ⟨w.heap.size, i * 6 + 3, none⟩ (.string d.v.text)).setCell ⟨w.heap.size, i * 6 + 4, none⟩ (.slice d.p d.v.ims.length d.c)).setCell ⟨w.heap.size, i * 6 + 5, none⟩ (.bool d.v.good))).ownsRow (w.heap.size + 1) 62 2 v m xs := by
  have hne : v.ownBlock ≠ some w.heap.size := fun e => by have := (h.lt _ e).1; omega
  exact (ownsRow_setCell_other (ownsRow_setCell_other (ownsRow_setCell_other (ownsRow_setCell_other (ownsRow_setCell_other (ownsRow_setCell_other h (a := ⟨w.heap.size, i * 6, none⟩) hne _) (a := ⟨w.heap.size, i * 6 + 1, none⟩) hne _) (a := ⟨w.heap.size, i * 6 + 2, none⟩) hne _) (a := ⟨w.heap.size, i * 6 + 3, none⟩) hne _) (a := ⟨w.heap.size, i * 6 + 4, none⟩) hne _) (a := ⟨w.heap.size, i * 6 + 5, none⟩) hne _)

set_option maxRecDepth 20000 in
set_option maxHeartbeats 4000000 in
theorem to_Facts (ds : List FactD) (hn : ds.length ≤ 1048576) (hm : ∀ d ∈ ds, d.v.ims.length ≤ 1048576) (a : Value) (w : World) (ha : FactsIn w a ds) :
    Calls Try.prog 12 #[a] w fun e w' => ∃ fs : List FactD, fs.map (·.v) = ds.map (·.v) ∧ e = .returned (.slice (some ⟨w.heap.size, 0, none⟩) ds.length ds.length) ∧ Below w.heap.size w w' ∧ FactsOwn w.heap.size w' (.slice (some ⟨w.heap.size, 0, none⟩) ds.length ds.length) fs := by
  have HIN := hid ha.2
  have HM := hid hm
  obtain ⟨⟨p, c, rfl, hp⟩, _⟩ := ha
  have HP := hid hp
  clear hp hm
  obtain ⟨i0, hi0, hz0, hz1, hz2⟩ := info_parts infoFact
  obtain ⟨wm, hrun, hown, hgr⟩ := run_make_full (P := Try.prog) w w.heap.size 25 47 i0 _ 6 Try.underlying25 hi0 hz0 hz1 .i64 .i64 ds.length (by rw [hz2]; omega) (by unfold maxLen; omega) (Nat.le_refl _)
  have hcells : (madeCells (Value.agg #[Value.int .i64 0, Value.int .i64 0, Value.int .i64 0, Value.string ⟨#[]⟩, Value.slice none 0 0, Value.bool false]).cells (ds.length * 6)).toList = flat encFact (mid [] ds.length) := by
    rw [mid_nil]
    exact made_flat (by decide) encFact_len zFact ds.length
  rw [hcells] at hown
  have hbm : Below w.heap.size w wm := ⟨hgr.os, hgr.tape, hgr.output, hgr.size, fun k hk => hgr.block k hk (by simp)⟩
  have HB := hid hbm
  have HO := hid hown
  have hzm := hgr.size
  clear hown hcells hgr hi0 hz0 hz1 hz2 hbm
  go_enter Try.func12, Try.ntmps12
  go_wp2
  go_loopw [4] (fun iv wr => ∃ i : Nat, i ≤ ds.length ∧ iv = .int .i64 i ∧ Below w.heap.size w wr ∧ Hid (w.heap.size < wr.heap.size ∧ ∃ fs : List FactD, fs.length = i ∧ fs.map (·.v) = (ds.take i).map (·.v) ∧ wr.ownsRow w.heap.size 47 6 (.slice (some ⟨w.heap.size, 0, none⟩) ds.length ds.length) ds.length (flat encFact (mid fs ds.length)) ∧ (∀ d ∈ fs, wr.ownsRow (w.heap.size + 1) 62 2 d.im d.v.ims.length (flat encImage d.v.ims)) ∧ fs.Pairwise (fun a b => ∀ j k, a.im.ownBlock = some j → b.im.ownBlock = some k → j < k))) (fun iv _ => ds.length - (RowKit.intOf iv).toNat)
  case atStart => exact ⟨0, Nat.zero_le _, rfl, HB.out, hid ⟨by have := (HO.out.lt _ rfl).2; omega, [], rfl, by simp, HO.out, fun d hd => (by cases hd), List.Pairwise.nil⟩⟩
  case round =>
    obtain ⟨i, hi, rfl, hbel, HX⟩ := hrel
    have HB2 := hid hbel
    by_cases hlt : i < ds.length
    · obtain ⟨ad, rfl, hbl, hc⟩ := HP.out i hlt
      have c0 : wr.cell? (ad.add (i * 6)) = some (.int .i64 ds[i].v.kind) := by
        rw [show ad.add (i * 6) = ad.add (i * 6 + 0) from rfl]
        rw [hbel.cell (p := ad.add (i * 6 + 0)) (by rw [add_block]; exact hbl)]
        exact hc 0 (by decide)
      have c1 : wr.cell? ⟨(ad.add (i * 6)).block, (ad.add (i * 6)).off + 1, none⟩ = some (.int .i64 ds[i].v.place) := by
        rw [add_at, if_neg (by omega)]
        rw [hbel.cell (p := ad.add (i * 6 + 1)) (by rw [add_block]; exact hbl)]
        exact hc 1 (by decide)
      have c2 : wr.cell? ⟨(ad.add (i * 6)).block, (ad.add (i * 6)).off + 2, none⟩ = some (.int .i64 ds[i].v.number) := by
        rw [add_at, if_neg (by omega)]
        rw [hbel.cell (p := ad.add (i * 6 + 2)) (by rw [add_block]; exact hbl)]
        exact hc 2 (by decide)
      have c3 : wr.cell? ⟨(ad.add (i * 6)).block, (ad.add (i * 6)).off + 3, none⟩ = some (.string ds[i].v.text) := by
        rw [add_at, if_neg (by omega)]
        rw [hbel.cell (p := ad.add (i * 6 + 3)) (by rw [add_block]; exact hbl)]
        exact hc 3 (by decide)
      have c4 : wr.cell? ⟨(ad.add (i * 6)).block, (ad.add (i * 6)).off + 4, none⟩ = some (.slice ds[i].p ds[i].v.ims.length ds[i].c) := by
        rw [add_at, if_neg (by omega)]
        rw [hbel.cell (p := ad.add (i * 6 + 4)) (by rw [add_block]; exact hbl)]
        exact hc 4 (by decide)
      have c5 : wr.cell? ⟨(ad.add (i * 6)).block, (ad.add (i * 6)).off + 5, none⟩ = some (.bool ds[i].v.good) := by
        rw [add_at, if_neg (by omega)]
        rw [hbel.cell (p := ad.add (i * 6 + 5)) (by rw [add_block]; exact hbl)]
        exact hc 5 (by decide)
      have HRI := hid ((HIN.out ds[i] (List.getElem_mem hlt)).on hbel)
      have HMI := hid (HM.out ds[i] (List.getElem_mem hlt))
      have HDI := hid (show (ds.take (i + 1)).map (·.v) = (ds.take i).map (·.v) ++ [ds[i].v] by rw [List.take_succ_eq_append_getElem hlt, List.map_append]; rfl)
      clear hbel hc hrun
      generalize ds[i] = di at *
      obtain ⟨⟨x0, x1, x2, x3, l, x5⟩, p, c⟩ := di
      dsimp only at c0 c1 c2 c3 c4 c5
      have CT := hid (fun (W : World) (hW : Below wr.heap.size wr W) => to_Fact x0 x1 x2 x3 l x5 HMI.out (.slice p l.length c) W (HRI.out.on hW))
      go_wp2_with (go_at_call 36; refine (CT.out _ (Below.refl _ _)).mono ?_; rintro e w5 ⟨sv5, rfl, hb5, ho5⟩; refine Hid.out ?_)
      refine hid ?_
      have HN5 := hid ho5
      obtain ⟨q5, d5, rfl, _⟩ := form_own ho5
      clear ho5
      obtain ⟨hszr, fs, hfl, hfm, hfo, hfi, hfp⟩ := HX.out
      have HSZ := hid hszr
      have HFM := hid hfm
      have HFO := hid hfo
      have HFI := hid hfi
      have HFP := hid hfp
      have HFL := hid hfl
      clear HX hszr hfm hfo hfi hfp hfl
      have HB5 := hid (HB2.out.trans (hb5.mono HB2.out.size))
      have HO5 := hid (own_below HFO.out hb5)
      have HS5 := hid hb5.size
      have HI5 := hid (fun d (hd : d ∈ fs) => own_below (HFI.out d hd) hb5)
      obtain ⟨u0, a0⟩ := own_some HO5.out (i * 6) (by omega)
      have f0 := HO5.out.frozenAt (i * 6)
      obtain ⟨u1, a1⟩ := own_some HO5.out (i * 6 + 1) (by omega)
      have f1 := HO5.out.frozenAt (i * 6 + 1)
      obtain ⟨u2, a2⟩ := own_some HO5.out (i * 6 + 2) (by omega)
      have f2 := HO5.out.frozenAt (i * 6 + 2)
      obtain ⟨u3, a3⟩ := own_some HO5.out (i * 6 + 3) (by omega)
      have f3 := HO5.out.frozenAt (i * 6 + 3)
      obtain ⟨u4, a4⟩ := own_some HO5.out (i * 6 + 4) (by omega)
      have f4 := HO5.out.frozenAt (i * 6 + 4)
      obtain ⟨u5, a5⟩ := own_some HO5.out (i * 6 + 5) (by omega)
      have f5 := HO5.out.frozenAt (i * 6 + 5)
      have hput := own_put HFL.out hlt ⟨⟨x0, x1, x2, x3, l, x5⟩, q5, d5⟩ HO5.out
      have hbel5 := below_put HB5.out i ⟨⟨x0, x1, x2, x3, l, x5⟩, q5, d5⟩
      have hold := fun d (hd : d ∈ fs) => other_put (i := i) (HI5.out d hd) ⟨⟨x0, x1, x2, x3, l, x5⟩, q5, d5⟩
      have hnew := other_put (i := i) (st_lower HN5.out (by exact HSZ.out)) ⟨⟨x0, x1, x2, x3, l, x5⟩, q5, d5⟩
      dsimp only at hput hbel5 hold hnew
      have HPUT := hid hput
      have HBEL := hid hbel5
      have HOLD := hid hold
      have HNEW := hid hnew
      clear hput hbel5 hold hnew
      clear hb5
      go_wp2
      go_roundw
      case rel =>
        refine ⟨i + 1, by omega, by go_num, HBEL.out, hid ⟨?_, fs ++ [⟨⟨x0, x1, x2, x3, l, x5⟩, q5, d5⟩], ?_, ?_, HPUT.out, ?_, ?_⟩⟩
        · have h1 := HSZ.out
          have h2 := HS5.out
          simp
          omega
        · rw [List.length_append, HFL.out]; rfl
        · rw [List.map_append, HFM.out, HDI.out]; rfl
        · intro d hd
          rcases List.mem_append.1 hd with h | h
          · exact HOLD.out d h
          · rw [List.mem_singleton.1 h]; exact HNEW.out
        · refine List.pairwise_append.2 ⟨HFP.out, List.pairwise_singleton _ _, fun a ha b hb j k hj hk => ?_⟩
          rw [List.mem_singleton.1 hb] at hk
          have h1 := ((HFI.out a ha).lt j hj).2
          have h2 := (HN5.out.lt k hk).1
          omega
      case measure => simp [RowKit.intOf]; omega
    · have hie : i = ds.length := by omega
      subst hie
      clear hbel hrun
      go_wp2
      go_ret
      obtain ⟨_, fs, hfl, hfm, hfo, hfi, hfp⟩ := HX.out
      refine ⟨fs, by rw [hfm, List.take_of_length_le (Nat.le_refl _)], rfl, HB2.out, ?_, fun j hj => by injection hj with hj; exact hj.symm, hfi, hfp⟩
      rw [hfl]
      rw [← hfl, mid_all] at hfo
      rw [hfl] at hfo
      exact hfo
end Go.Proofs.Ytedmancgpjpecaa
