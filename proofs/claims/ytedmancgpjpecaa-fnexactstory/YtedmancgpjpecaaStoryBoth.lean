/- Story, the specification's and the program's. -/
import Derived.Test.YtedmancgpjpecaaRowFact
import Derived.Test.YtedmancgpjpecaaIntKit
namespace Go.Proofs.Ytedmancgpjpecaa
open Go.RowKit
open Go.Lib (hid)

def sameN (t : ByteArray) (f : FactV) : Bool := f.text.toList == t.toList

/-- The places of the facts with a text, among the first so many. -/
def stoTo (es : List FactD) (t : ByteArray) : Nat → List Int
  | 0 => []
  | i + 1 => stoTo es t i ++ if (es.getD i zFact).v.text.toList == t.toList then [(i : Int)] else []

theorem stoTo_no {es : List FactD} {t : ByteArray} {i : Nat} (h : ((es.getD i zFact).v.text.toList == t.toList) = false) : stoTo es t (i + 1) = stoTo es t i := by
  show stoTo es t i ++ _ = _
  rw [h]
  simp

theorem stoTo_yes {es : List FactD} {t : ByteArray} {i : Nat} (h : ((es.getD i zFact).v.text.toList == t.toList) = true) : stoTo es t (i + 1) = stoTo es t i ++ [(i : Int)] := by
  show stoTo es t i ++ _ = _
  rw [h]
  rfl

theorem stoTo_few (es : List FactD) (t : ByteArray) (i : Nat) : (stoTo es t i).length ≤ i := by
  induction i with
  | zero => exact Nat.le_refl _
  | succ i ih =>
    show (stoTo es t i ++ _).length ≤ i + 1
    rw [List.length_append]
    split <;> simp <;> omega

def stoOut (es : List FactD) (t : ByteArray) : List Int := if es.length ≤ 300 then stoTo es t es.length else []

theorem stoOut_few (es : List FactD) (t : ByteArray) : (stoOut es t).length ≤ 300 := by
  unfold stoOut
  split
  · have := stoTo_few es t es.length
    omega
  · simp

theorem stoTo_same {ds fs : List FactD} (h : fs.map (·.v) = ds.map (·.v)) (t : ByteArray) (i : Nat) (hi : i ≤ ds.length) : stoTo fs t i = stoTo ds t i := by
  induction i with
  | zero => rfl
  | succ i ih =>
    have hl : fs.length = ds.length := by simpa using congrArg List.length h
    have h1 : (fs.getD i zFact).v = (ds.getD i zFact).v := by
      rw [List.getD_eq_getElem?_getD, List.getD_eq_getElem?_getD, List.getElem?_eq_getElem (by omega), List.getElem?_eq_getElem (by omega)]
      exact (same_v h i (by omega) (by omega)).symm
    show stoTo fs t i ++ _ = stoTo ds t i ++ _
    rw [ih (by omega), h1]

theorem stoOut_same {ds fs : List FactD} (h : fs.map (·.v) = ds.map (·.v)) (t : ByteArray) : stoOut fs t = stoOut ds t := by
  have hl : fs.length = ds.length := by simpa using congrArg List.length h
  unfold stoOut
  rw [hl, stoTo_same h t _ (Nat.le_refl _)]

def StoPost (L : List Int) (w : World) (e : Ending) (w' : World) : Prop :=
  ∃ sv, e = .returned sv ∧ Below w.heap.size w w' ∧ w'.ownsRow w.heap.size 2 1 sv L.length (ints L)

theorem none_ints (w : World) : (w.alloc (.cells #[] 2)).ownsRow w.heap.size 2 1 (.slice (some ⟨w.heap.size, 0, none⟩) 0 0) 0 [] := World.ownsRow_made w #[] 0 (Nat.le_refl _) (Nat.zero_le _) rfl

set_option maxRecDepth 20000 in
set_option maxHeartbeats 2000000 in
theorem story_spec (es : List FactD) (hn : es.length ≤ 1048576) (t : ByteArray) (a : Value) (w : World) (ha : FactsAt w a es) :
    Calls Try.prog 32 #[a, .string t] w (StoPost (stoOut es t) w) := by
  unfold StoPost
  obtain ⟨⟨p, c, rfl, _, hr⟩, _⟩ := ha
  have HR := hid hr
  clear hr
  have HB0 : Hid (Below w.heap.size w (w.alloc (.cells #[] 2))) := hid ((Below.refl _ _).alloc (Nat.le_refl _) _)
  have HO0 : Hid ((w.alloc (.cells #[] 2)).ownsRow w.heap.size 2 1 (.slice (some ⟨w.heap.size, 0, none⟩) 0 0) 0 []) := hid (none_ints w)
  by_cases h300 : es.length ≤ 300
  · have h3 : (es.length : Int) ≤ 300 := by omega
    go_enter Try.func32, Try.ntmps32
    go_wp2
    go_loopw [5, 6] (fun out iv wr => ∃ i : Nat, i ≤ es.length ∧ iv = .int .i64 i ∧ Below w.heap.size w wr ∧ Hid (wr.ownsRow w.heap.size 2 1 out (stoTo es t i).length (ints (stoTo es t i)))) (fun _ iv _ => es.length - (RowKit.intOf iv).toNat)
    case atStart => exact ⟨0, Nat.zero_le _, rfl, HB0.out, HO0⟩
    case round =>
      obtain ⟨i, hi, rfl, hbel, HO⟩ := hrel
      have HB := hid hbel
      by_cases hlt : i < es.length
      · have hne : es ≠ [] := fun h => by rw [h] at hlt; cases hlt
        obtain ⟨g, o, rfl, hg, hc⟩ := HR.out hne
        have b1 : (0 : Int) ≤ (i : Int) := by omega
        have b2 : (i : Int) < (es.length : Int) := by omega
        have k3 : wr.cell? ⟨g, o + i * 6 + 3, none⟩ = some (.string es[i].v.text) := (hbel.cell (p := ⟨g, o + i * 6 + 3, none⟩) hg).trans (hc i hlt 3 (by decide))
        have HD : Hid (es.getD i zFact = es[i]) := hid (by simp [List.getD, hlt])
        clear hc
        cases hf : (es[i].v.text.toList == t.toList) with
        | false =>
          have HC := hid (stoTo_no (es := es) (t := t) (i := i) (by rw [HD.out]; exact hf))
          clear hbel
          generalize es[i] = x at *
          go_wp2
          go_roundw
          case rel => exact ⟨i + 1, by omega, by go_num, HB.out, hid (by rw [HC.out]; exact HO.out)⟩
          case measure => simp [RowKit.intOf]; omega
        | true =>
          have HC := hid (stoTo_yes (es := es) (t := t) (i := i) (by rw [HD.out]; exact hf))
          clear hbel
          generalize es[i] = x at *
          go_wp2_with (first | (at_builtin; refine wp_append_ints rfl _ _ rfl w.heap.size _ _ _ rfl (HO.out.alloc _) _ [(i : Int)] rfl (row_lit _ _ _) ?c2 ?c3 (fun c h => by cases h) ?_))
          case c2 => have := stoTo_few es t i; simp; omega
          case c3 => have := HB.out.size; simp; omega
          intro out' w3 ho3 hg3 _
          have HN : Hid (w3.ownsRow w.heap.size 2 1 out' (stoTo es t (i + 1)).length (ints (stoTo es t (i + 1)))) := hid (by rw [HC.out, List.length_append, ints_append]; exact ho3)
          have HB3 : Hid (Below w.heap.size w w3) := hid (((HB.out).alloc (HB.out).size _).grown hg3 (by have := HB.out.size; simp; omega) (fun k hk => (HO.out.lt k hk).1))
          clear hg3 ho3
          go_wp2
          go_roundw
          case rel => exact ⟨i + 1, by omega, by go_num, HB3.out, HN⟩
          case measure => simp [RowKit.intOf]; omega
      · have hie : i = es.length := by omega
        subst hie
        have HZ : Hid (stoOut es t = stoTo es t es.length) := hid (by unfold stoOut; rw [if_pos h300])
        clear hbel
        go_wp2
        go_ret
        exact ⟨_, rfl, HB.out, by rw [HZ.out]; exact HO.out⟩
  · have HZ : Hid (stoOut es t = []) := hid (by unfold stoOut; rw [if_neg h300])
    have h3 : ¬ ((es.length : Int) ≤ 300) := by omega
    rw [HZ.out]
    go_enter Try.func32, Try.ntmps32
    go_wp2
    go_loopw [5, 6] (fun out iv wr => iv = .int .i64 0 ∧ out = .slice (some ⟨w.heap.size, 0, none⟩) 0 0 ∧ wr = w.alloc (.cells #[] 2)) (fun _ _ _ => 0)
    case atStart => exact ⟨rfl, rfl, rfl⟩
    case round =>
      obtain ⟨rfl, rfl, rfl⟩ := hrel
      go_wp2
      go_ret
      exact ⟨_, rfl, HB0.out, HO0.out⟩

set_option maxRecDepth 20000 in
set_option maxHeartbeats 2000000 in
theorem story_impl (es : List FactD) (hn : es.length ≤ 1048576) (t : ByteArray) (a : Value) (w : World) (ha : FactsAt w a es) :
    Calls Try.prog 33 #[a, .string t] w (StoPost (stoOut es t) w) := by
  unfold StoPost
  obtain ⟨⟨p, c, rfl, _, hr⟩, _⟩ := ha
  have HR := hid hr
  clear hr
  by_cases h300 : es.length ≤ 300
  · have h3 : (es.length : Int) ≤ 300 := by omega
    go_enter Try.func33, Try.ntmps33
    go_wp2
    go_loopw [5, 13] (fun out iv wr => ∃ i : Nat, i ≤ es.length ∧ iv = .int .i64 i ∧ Below w.heap.size w wr ∧ Hid (wr.ownsRow w.heap.size 2 1 out (stoTo es t i).length (ints (stoTo es t i)))) (fun _ iv _ => es.length - (RowKit.intOf iv).toNat)
    case atStart => exact ⟨0, Nat.zero_le _, rfl, Below.refl _ _, hid (World.ownsRow_nil _ _ _ _)⟩
    case round =>
      obtain ⟨i, hi, rfl, hbel, HO⟩ := hrel
      have HB := hid hbel
      by_cases hlt : i < es.length
      · have hne : es ≠ [] := fun h => by rw [h] at hlt; cases hlt
        obtain ⟨g, o, rfl, hg, hc⟩ := HR.out hne
        have b1 : (0 : Int) ≤ (i : Int) := by omega
        have b2 : (i : Int) < (es.length : Int) := by omega
        have k0 : wr.cell? ⟨g, o + i * 6, none⟩ = some (.int .i64 es[i].v.kind) := (hbel.cell (p := ⟨g, o + i * 6, none⟩) hg).trans (hc i hlt 0 (by decide))
        have k1 : wr.cell? ⟨g, o + i * 6 + 1, none⟩ = some (.int .i64 es[i].v.place) := (hbel.cell (p := ⟨g, o + i * 6 + 1, none⟩) hg).trans (hc i hlt 1 (by decide))
        have k2 : wr.cell? ⟨g, o + i * 6 + 2, none⟩ = some (.int .i64 es[i].v.number) := (hbel.cell (p := ⟨g, o + i * 6 + 2, none⟩) hg).trans (hc i hlt 2 (by decide))
        have k3 : wr.cell? ⟨g, o + i * 6 + 3, none⟩ = some (.string es[i].v.text) := (hbel.cell (p := ⟨g, o + i * 6 + 3, none⟩) hg).trans (hc i hlt 3 (by decide))
        have k4 : wr.cell? ⟨g, o + i * 6 + 4, none⟩ = some (.slice es[i].p es[i].v.ims.length es[i].c) := (hbel.cell (p := ⟨g, o + i * 6 + 4, none⟩) hg).trans (hc i hlt 4 (by decide))
        have k5 : wr.cell? ⟨g, o + i * 6 + 5, none⟩ = some (.bool es[i].v.good) := (hbel.cell (p := ⟨g, o + i * 6 + 5, none⟩) hg).trans (hc i hlt 5 (by decide))
        have HD : Hid (es.getD i zFact = es[i]) := hid (by simp [List.getD, hlt])
        clear hc
        cases hf : (es[i].v.text.toList == t.toList) with
        | false =>
          have HC := hid (stoTo_no (es := es) (t := t) (i := i) (by rw [HD.out]; exact hf))
          clear hbel
          generalize es[i] = x at *
          obtain ⟨w2, hw2⟩ : ∃ W, W = wr.alloc (.cells #[.int .i64 x.v.kind, .int .i64 x.v.place, .int .i64 x.v.number, .string x.v.text, .slice x.p x.v.ims.length x.c, .bool x.v.good] 47) := ⟨_, rfl⟩
          have HB2 := hid (show Below w.heap.size w w2 from by rw [hw2]; exact HB.out.alloc HB.out.size _)
          have HO2 := hid (show w2.ownsRow w.heap.size 2 1 _ (stoTo es t i).length (ints (stoTo es t i)) from by rw [hw2]; exact HO.out.alloc _)
          have hl2 : w2.heap.size = wr.heap.size + 1 := by rw [hw2]; simp
          have hrl := row_lit w2 (i : Int) 2
          rw [hl2, hw2] at hrl
          have HRL := hid hrl
          rw [hw2] at HB2 HO2
          clear hl2 hrl
          clear hw2
          go_wp2
          go_roundw
          case rel => exact ⟨i + 1, by omega, by go_num, HB2.out, hid (by rw [HC.out]; exact HO2.out)⟩
          case measure => simp [RowKit.intOf]; omega
        | true =>
          have HC := hid (stoTo_yes (es := es) (t := t) (i := i) (by rw [HD.out]; exact hf))
          clear hbel
          generalize es[i] = x at *
          obtain ⟨w2, hw2⟩ : ∃ W, W = wr.alloc (.cells #[.int .i64 x.v.kind, .int .i64 x.v.place, .int .i64 x.v.number, .string x.v.text, .slice x.p x.v.ims.length x.c, .bool x.v.good] 47) := ⟨_, rfl⟩
          have HB2 := hid (show Below w.heap.size w w2 from by rw [hw2]; exact HB.out.alloc HB.out.size _)
          have HO2 := hid (show w2.ownsRow w.heap.size 2 1 _ (stoTo es t i).length (ints (stoTo es t i)) from by rw [hw2]; exact HO.out.alloc _)
          have hl2 : w2.heap.size = wr.heap.size + 1 := by rw [hw2]; simp
          have hrl := row_lit w2 (i : Int) 2
          rw [hl2, hw2] at hrl
          have HRL := hid hrl
          rw [hw2] at HB2 HO2
          clear hl2 hrl
          clear hw2
          go_wp2_with (first | (at_builtin; refine wp_append_ints rfl _ _ rfl w.heap.size _ _ _ rfl (HO2.out.alloc _) _ [(i : Int)] rfl (HRL.out) ?c2 ?c3 (fun c h => by cases h) ?_))
          case c2 => have := stoTo_few es t i; simp; omega
          case c3 => have := HB.out.size; simp; omega
          intro out' w3 ho3 hg3 _
          have HN : Hid (w3.ownsRow w.heap.size 2 1 out' (stoTo es t (i + 1)).length (ints (stoTo es t (i + 1)))) := hid (by rw [HC.out, List.length_append, ints_append]; exact ho3)
          have HB3 : Hid (Below w.heap.size w w3) := hid (((HB2.out).alloc (HB2.out).size _).grown hg3 (by have := HB.out.size; simp; omega) (fun k hk => (HO.out.lt k hk).1))
          clear hg3 ho3
          go_wp2
          go_roundw
          case rel => exact ⟨i + 1, by omega, by go_num, HB3.out, HN⟩
          case measure => simp [RowKit.intOf]; omega
      · have hie : i = es.length := by omega
        subst hie
        have HZ : Hid (stoOut es t = stoTo es t es.length) := hid (by unfold stoOut; rw [if_pos h300])
        clear hbel
        go_wp2
        go_ret
        exact ⟨_, rfl, HB.out, by rw [HZ.out]; exact HO.out⟩
  · have HZ : Hid (stoOut es t = []) := hid (by unfold stoOut; rw [if_neg h300])
    have h3 : ¬ ((es.length : Int) ≤ 300) := by omega
    rw [HZ.out]
    go_enter Try.func33, Try.ntmps33
    go_wp2
    go_ret
    exact ⟨_, rfl, Below.refl _ _, World.ownsRow_nil _ _ _ _⟩
end Go.Proofs.Ytedmancgpjpecaa
