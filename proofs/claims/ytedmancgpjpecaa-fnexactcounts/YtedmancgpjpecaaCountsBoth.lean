/- Counts, the specification's and the program's. -/
import Derived.Test.YtedmancgpjpecaaRowFact
import Derived.Test.YtedmancgpjpecaaIntKit
namespace Go.Proofs.Ytedmancgpjpecaa
open Go.RowKit
open Go.Lib (hid)

/-- One more of a kind. -/
def bump (l : List Int) (k : Int) : List Int := if 1 ≤ k ∧ k ≤ 8 then l.set (k - 1).toNat (l.getD (k - 1).toNat 0 + 1) else l

/-- How many of each kind among the first so many. -/
def cntTo (es : List FactD) : Nat → List Int
  | 0 => noughts 8
  | i + 1 => bump (cntTo es i) (es.getD i zFact).v.kind

theorem bump_len (l : List Int) (k : Int) : (bump l k).length = l.length := by
  unfold bump
  split <;> simp

theorem cntTo_len (es : List FactD) (i : Nat) : (cntTo es i).length = 8 := by
  induction i with
  | zero => rfl
  | succ i ih =>
    show (bump (cntTo es i) _).length = 8
    rw [bump_len, ih]

theorem cntTo_few (es : List FactD) (i j : Nat) : 0 ≤ (cntTo es i).getD j 0 ∧ (cntTo es i).getD j 0 ≤ i := by
  induction i generalizing j with
  | zero =>
    show 0 ≤ (noughts 8).getD j 0 ∧ (noughts 8).getD j 0 ≤ ((0 : Nat) : Int)
    unfold noughts
    rw [List.getD_eq_getElem?_getD, List.getElem?_replicate]
    split <;> simp
  | succ i ih =>
    show 0 ≤ (bump (cntTo es i) _).getD j 0 ∧ (bump (cntTo es i) _).getD j 0 ≤ ((i + 1 : Nat) : Int)
    unfold bump
    split
    · rename_i h
      generalize ((es.getD i zFact).v.kind - 1).toNat = q
      have hq := ih q
      have hj := ih j
      rw [List.getD_eq_getElem?_getD, List.getElem?_set]
      split
      · split
        · simp only [Option.getD_some]
          omega
        · simp
          omega
      · rw [← List.getD_eq_getElem?_getD]
        omega
    · have := ih j
      omega

theorem cntTo_same {ds fs : List FactD} (h : fs.map (·.v) = ds.map (·.v)) (i : Nat) (hi : i ≤ ds.length) : cntTo fs i = cntTo ds i := by
  induction i with
  | zero => rfl
  | succ i ih =>
    have hl : fs.length = ds.length := by simpa using congrArg List.length h
    have h1 : (fs.getD i zFact).v = (ds.getD i zFact).v := by
      rw [List.getD_eq_getElem?_getD, List.getD_eq_getElem?_getD, List.getElem?_eq_getElem (by omega), List.getElem?_eq_getElem (by omega)]
      exact (same_v h i (by omega) (by omega)).symm
    show bump (cntTo fs i) _ = bump (cntTo ds i) _
    rw [ih (by omega), h1]

def cntOut (es : List FactD) : List Int := cntTo es es.length

theorem cntOut_same {ds fs : List FactD} (h : fs.map (·.v) = ds.map (·.v)) : cntOut fs = cntOut ds := by
  have hl : fs.length = ds.length := by simpa using congrArg List.length h
  unfold cntOut
  rw [hl, cntTo_same h _ (Nat.le_refl _)]

def CntPost (L : List Int) (w : World) (e : Ending) (w' : World) : Prop :=
  ∃ sv, e = .returned sv ∧ Below w.heap.size w w' ∧ w'.ownsRow w.heap.size 2 1 sv L.length (ints L)

theorem in_one (k : Int) (w : World) : Calls Try.prog 52 #[.int .i64 k, .int .i64 1, .int .i64 8] w fun e w' => e = .returned (.bool (decide (1 ≤ k ∧ k ≤ 8))) ∧ w' = w := by
  obtain ⟨R, hR⟩ : ∃ R, R = decide (1 ≤ k ∧ k ≤ 8) := ⟨_, rfl⟩
  rw [← hR]
  have HR := hid hR
  clear hR
  by_cases h1 : 1 ≤ k
  · by_cases h2 : k ≤ 8
    · have hd := hid (HR.out.trans (decide_eq_true (show 1 ≤ k ∧ k ≤ 8 from ⟨h1, h2⟩)))
      go_enter Try.func52, Try.ntmps52
      go_wp2
      go_ret
      exact ⟨by rw [hd.out]; rfl, by first | rfl | trivial⟩
    · have hd := hid (HR.out.trans (decide_eq_false (show ¬ (1 ≤ k ∧ k ≤ 8) from fun h => h2 h.2)))
      go_enter Try.func52, Try.ntmps52
      go_wp2
      go_ret
      exact ⟨by rw [hd.out]; rfl, by first | rfl | trivial⟩
  · have hd := hid (HR.out.trans (decide_eq_false (show ¬ (1 ≤ k ∧ k ≤ 8) from fun h => h1 h.1)))
    go_enter Try.func52, Try.ntmps52
    go_wp2
    go_ret
    exact ⟨by rw [hd.out]; rfl, by first | rfl | trivial⟩

set_option maxRecDepth 20000 in
set_option maxHeartbeats 2000000 in
theorem counts_spec (es : List FactD) (hn : es.length ≤ 1048576) (a : Value) (w : World) (ha : FactsAt w a es) :
    Calls Try.prog 26 #[a] w (CntPost (cntOut es) w) := by
  unfold CntPost
  obtain ⟨⟨p, c, rfl, _, hr⟩, _⟩ := ha
  have HR := hid hr
  clear hr
  obtain ⟨i0, hi0, hz0, hz1, hz2⟩ := info_parts intInfo
  obtain ⟨wm, hrun, hown, hgr⟩ := run_make_full (P := Try.prog) w w.heap.size 36 2 i0 _ 1 Try.underlying36 hi0 hz0 hz1 .i64 .i64 8 (by rw [hz2]; decide) (by decide) (Nat.le_refl _)
  have hcells : (madeCells (Value.int .i64 0).cells (8 * 1)).toList = ints (cntTo es 0) := by show _ = ints (noughts 8); simp [madeCells, ints, noughts, Value.cells]; rfl
  rw [hcells] at hown
  have hbm : Below w.heap.size w wm := ⟨hgr.os, hgr.tape, hgr.output, hgr.size, fun k hk => hgr.block k hk (by simp)⟩
  have HBM := hid hbm
  have HOM := hid hown
  have h8 : (((8 : Nat) : Int)) = 8 := rfl
  rw [h8] at hrun
  clear hown hcells hgr hi0 hz0 hz1 hz2 hbm
  go_enter Try.func26, Try.ntmps26
  go_wp2
  go_loopw [4] (fun iv wr => ∃ i : Nat, i ≤ es.length ∧ iv = .int .i64 i ∧ Below w.heap.size w wr ∧ Hid (wr.ownsRow w.heap.size 2 1 (.slice (some ⟨w.heap.size, 0, none⟩) 8 8) 8 (ints (cntTo es i)))) (fun iv _ => es.length - (RowKit.intOf iv).toNat)
  case atStart => exact ⟨0, Nat.zero_le _, rfl, HBM.out, HOM⟩
  case round =>
    obtain ⟨i, hi, rfl, hbel, HO⟩ := hrel
    have HB := hid hbel
    by_cases hlt : i < es.length
    · have hne : es ≠ [] := fun h => by rw [h] at hlt; cases hlt
      obtain ⟨g, o, rfl, hg, hc⟩ := HR.out hne
      have b1 : (0 : Int) ≤ (i : Int) := by omega
      have b2 : (i : Int) < (es.length : Int) := by omega
      have k0 : wr.cell? ⟨g, o + i * 6, none⟩ = some (.int .i64 es[i].v.kind) := (hbel.cell (p := ⟨g, o + i * 6, none⟩) hg).trans (hc i hlt 0 (by decide))
      have HD : Hid (es.getD i zFact = es[i]) := hid (by simp [List.getD, hlt])
      have HFEW := hid (fun j => cntTo_few es i j)
      have HLEN := hid (cntTo_len es i)
      clear hc hrun
      have CI := hid (fun W => in_one es[i].v.kind W)
      by_cases hk : 1 ≤ es[i].v.kind ∧ es[i].v.kind ≤ 8
      · obtain ⟨j, hj⟩ : ∃ j : Nat, es[i].v.kind = (j : Int) + 1 := ⟨(es[i].v.kind - 1).toNat, by omega⟩
        have hj8 : j < 8 := by omega
        have HC := hid (show cntTo es (i + 1) = (cntTo es i).set j ((cntTo es i).getD j 0 + 1) by
          show bump (cntTo es i) _ = _
          rw [HD.out]
          unfold bump
          rw [if_pos hk, hj, show ((j : Int) + 1 - 1).toNat = j by omega])
        have hfew := HFEW.out j
        have HGET := hid (show (ints (cntTo es i))[j]? = some (.int .i64 ((cntTo es i).getD j 0)) by
          rw [ints_at _ _ (by rw [HLEN.out]; exact hj8), List.getD_eq_getElem?_getD, List.getElem?_eq_getElem (by rw [HLEN.out]; exact hj8)]
          rfl)
        have c1 : decide (1 ≤ (j : Int) + 1) = true := decide_eq_true (by omega)
        have c2 : decide ((j : Int) + 1 ≤ 8) = true := decide_eq_true (by omega)
        have c3 : (0 : Int) ≤ (j : Int) := by omega
        have c4 : (j : Int) < 8 := by omega
        have HIX : Hid (i < 1048576) := hid (by omega)
        clear hbel hk HFEW
        generalize es[i] = x at *
        rw [hj] at k0 CI
        clear hj
        rw [decide_eq_true (show 1 ≤ (j : Int) + 1 ∧ (j : Int) + 1 ≤ 8 from ⟨by omega, by omega⟩)] at CI
        have q0 := HO.out.cellAt j (by omega)
        have qf := HO.out.frozenAt j
        rw [HGET.out] at q0
        generalize (cntTo es i).getD j 0 = y at *
        have hy : wrap64 (y + 1) = y + 1 := (by have := HIX.out; unfold wrap64; omega)
        have HN := hid (show _ from (HO.out.stored j (.int .i64 (y + 1))).1)
        go_wp2_with (go_at_call 52; refine (CI.out _).mono ?_; rintro e wq ⟨rfl, eq⟩; rw [eq]; clear eq wq; refine Hid.out ?_)
        refine hid ?_
        go_wp2
        go_roundw
        case rel => exact ⟨i + 1, by omega, by go_num, HB.out.setCell (p := ⟨w.heap.size, j, none⟩) (Nat.le_refl _) _, hid (by rw [HC.out, ← ints_set]; exact HN.out)⟩
        case measure => simp [RowKit.intOf]; omega
      · have HC := hid (show cntTo es (i + 1) = cntTo es i by
          show bump (cntTo es i) _ = _
          rw [HD.out]
          unfold bump
          rw [if_neg hk])
        clear hbel HFEW
        generalize es[i] = x at *
        have cin : Hid (decide (1 ≤ x.v.kind ∧ x.v.kind ≤ 8) = false) := hid (decide_eq_false hk)
        rw [cin.out] at CI
        clear hk cin
        generalize x.v.kind = kk at *
        go_wp2_with (go_at_call 52; refine (CI.out _).mono ?_; rintro e wq ⟨rfl, eq⟩; rw [eq]; clear eq wq; refine Hid.out ?_)
        refine hid ?_
        go_wp2
        go_roundw
        case rel => exact ⟨i + 1, by omega, by go_num, HB.out, hid (by rw [HC.out]; exact HO.out)⟩
        case measure => simp [RowKit.intOf]; omega
    · have hie : i = es.length := by omega
      subst hie
      clear hbel hrun
      go_wp2
      go_ret
      refine ⟨_, rfl, HB.out, ?_⟩
      unfold cntOut
      rw [cntTo_len]
      exact HO.out

set_option maxRecDepth 20000 in
set_option maxHeartbeats 2000000 in
theorem counts_impl (es : List FactD) (hn : es.length ≤ 1048576) (a : Value) (w : World) (ha : FactsAt w a es) :
    Calls Try.prog 27 #[a] w (CntPost (cntOut es) w) := by
  unfold CntPost
  obtain ⟨⟨p, c, rfl, _, hr⟩, _⟩ := ha
  have HR := hid hr
  clear hr
  obtain ⟨i0, hi0, hz0, hz1, hz2⟩ := info_parts intInfo
  obtain ⟨wm, hrun, hown, hgr⟩ := run_make_full (P := Try.prog) w w.heap.size 36 2 i0 _ 1 Try.underlying36 hi0 hz0 hz1 .i64 .i64 8 (by rw [hz2]; decide) (by decide) (Nat.le_refl _)
  have hcells : (madeCells (Value.int .i64 0).cells (8 * 1)).toList = ints (cntTo es 0) := by show _ = ints (noughts 8); simp [madeCells, ints, noughts, Value.cells]; rfl
  rw [hcells] at hown
  have hbm : Below w.heap.size w wm := ⟨hgr.os, hgr.tape, hgr.output, hgr.size, fun k hk => hgr.block k hk (by simp)⟩
  have HBM := hid hbm
  have HOM := hid hown
  have h8 : (((8 : Nat) : Int)) = 8 := rfl
  rw [h8] at hrun
  clear hown hcells hgr hi0 hz0 hz1 hz2 hbm
  go_enter Try.func27, Try.ntmps27
  go_wp2
  go_loopw [9] (fun iv wr => ∃ i : Nat, i ≤ es.length ∧ iv = .int .i64 i ∧ Below w.heap.size w wr ∧ Hid (wr.ownsRow w.heap.size 2 1 (.slice (some ⟨w.heap.size, 0, none⟩) 8 8) 8 (ints (cntTo es i)))) (fun iv _ => es.length - (RowKit.intOf iv).toNat)
  case atStart => exact ⟨0, Nat.zero_le _, rfl, HBM.out, HOM⟩
  case round =>
    obtain ⟨i, hi, rfl, hbel, HO⟩ := hrel
    have HB := hid hbel
    by_cases hlt : i < es.length
    · have hne : es ≠ [] := fun h => by rw [h] at hlt; cases hlt
      obtain ⟨g, o, rfl, hg, hc⟩ := HR.out hne
      have b1 : (0 : Int) ≤ (i : Int) := by omega
      have b2 : (i : Int) < (es.length : Int) := by omega
      have k0 : wr.cell? ⟨g, o + i * 6, none⟩ = some (.int .i64 es[i].v.kind) := (hbel.cell (p := ⟨g, o + i * 6, none⟩) hg).trans (hc i hlt 0 (by decide))
      have k1 : wr.cell? ⟨g, o + i * 6 + 1, none⟩ = some (.int .i64 es[i].v.place) := (hbel.cell (p := ⟨g, o + i * 6 + 1, none⟩) hg).trans (hc i hlt 1 (by decide))
      have k2 : wr.cell? ⟨g, o + i * 6 + 2, none⟩ = some (.int .i64 es[i].v.number) := (hbel.cell (p := ⟨g, o + i * 6 + 2, none⟩) hg).trans (hc i hlt 2 (by decide))
      have k3 : wr.cell? ⟨g, o + i * 6 + 3, none⟩ = some (.string es[i].v.text) := (hbel.cell (p := ⟨g, o + i * 6 + 3, none⟩) hg).trans (hc i hlt 3 (by decide))
      have k4 : wr.cell? ⟨g, o + i * 6 + 4, none⟩ = some (.slice es[i].p es[i].v.ims.length es[i].c) := (hbel.cell (p := ⟨g, o + i * 6 + 4, none⟩) hg).trans (hc i hlt 4 (by decide))
      have k5 : wr.cell? ⟨g, o + i * 6 + 5, none⟩ = some (.bool es[i].v.good) := (hbel.cell (p := ⟨g, o + i * 6 + 5, none⟩) hg).trans (hc i hlt 5 (by decide))
      have HD : Hid (es.getD i zFact = es[i]) := hid (by simp [List.getD, hlt])
      have HFEW := hid (fun j => cntTo_few es i j)
      have HLEN := hid (cntTo_len es i)
      clear hc hrun
      by_cases hk : 1 ≤ es[i].v.kind ∧ es[i].v.kind ≤ 8
      · obtain ⟨j, hj⟩ : ∃ j : Nat, es[i].v.kind = (j : Int) + 1 := ⟨(es[i].v.kind - 1).toNat, by omega⟩
        have hj8 : j < 8 := by omega
        have HC := hid (show cntTo es (i + 1) = (cntTo es i).set j ((cntTo es i).getD j 0 + 1) by
          show bump (cntTo es i) _ = _
          rw [HD.out]
          unfold bump
          rw [if_pos hk, hj, show ((j : Int) + 1 - 1).toNat = j by omega])
        have hfew := HFEW.out j
        have HGET := hid (show (ints (cntTo es i))[j]? = some (.int .i64 ((cntTo es i).getD j 0)) by
          rw [ints_at _ _ (by rw [HLEN.out]; exact hj8), List.getD_eq_getElem?_getD, List.getElem?_eq_getElem (by rw [HLEN.out]; exact hj8)]
          rfl)
        have c1 : decide (1 ≤ (j : Int) + 1) = true := decide_eq_true (by omega)
        have c2 : decide ((j : Int) + 1 ≤ 8) = true := decide_eq_true (by omega)
        have c3 : (0 : Int) ≤ (j : Int) := by omega
        have c4 : (j : Int) < 8 := by omega
        have HIX : Hid (i < 1048576) := hid (by omega)
        clear hbel hk HFEW
        generalize es[i] = x at *
        rw [hj] at k0
        clear hj
        obtain ⟨w2, hw2⟩ : ∃ W, W = wr.alloc (.cells #[.int .i64 ((j : Int) + 1), .int .i64 x.v.place, .int .i64 x.v.number, .string x.v.text, .slice x.p x.v.ims.length x.c, .bool x.v.good] 47) := ⟨_, rfl⟩
        have HB2 := hid (show Below w.heap.size w w2 from by rw [hw2]; exact HB.out.alloc HB.out.size _)
        have HO2 := hid (show w2.ownsRow w.heap.size 2 1 (.slice (some ⟨w.heap.size, 0, none⟩) 8 8) 8 (ints (cntTo es i)) from by rw [hw2]; exact HO.out.alloc _)
        rw [hw2] at HB2 HO2
        clear hw2
        have q0 := HO2.out.cellAt j (by omega)
        have qf := HO2.out.frozenAt j
        rw [HGET.out] at q0
        generalize (cntTo es i).getD j 0 = y at *
        have hy : wrap64 (y + 1) = y + 1 := (by have := HIX.out; unfold wrap64; omega)
        have HN := hid (show _ from (HO2.out.stored j (.int .i64 (y + 1))).1)
        go_wp2
        go_roundw
        case rel => exact ⟨i + 1, by omega, by go_num, HB2.out.setCell (p := ⟨w.heap.size, j, none⟩) (Nat.le_refl _) _, hid (by rw [HC.out, ← ints_set]; exact HN.out)⟩
        case measure => simp [RowKit.intOf]; omega
      · have HC := hid (show cntTo es (i + 1) = cntTo es i by
          show bump (cntTo es i) _ = _
          rw [HD.out]
          unfold bump
          rw [if_neg hk])
        clear hbel HFEW
        generalize es[i] = x at *
        obtain ⟨w2, hw2⟩ : ∃ W, W = wr.alloc (.cells #[.int .i64 x.v.kind, .int .i64 x.v.place, .int .i64 x.v.number, .string x.v.text, .slice x.p x.v.ims.length x.c, .bool x.v.good] 47) := ⟨_, rfl⟩
        have HB2 := hid (show Below w.heap.size w w2 from by rw [hw2]; exact HB.out.alloc HB.out.size _)
        have HO2 := hid (show w2.ownsRow w.heap.size 2 1 (.slice (some ⟨w.heap.size, 0, none⟩) 8 8) 8 (ints (cntTo es i)) from by rw [hw2]; exact HO.out.alloc _)
        rw [hw2] at HB2 HO2
        clear hw2
        by_cases h1 : 1 ≤ x.v.kind
        · have d1 : decide (1 ≤ x.v.kind) = true := decide_eq_true h1
          have d2 : decide (x.v.kind ≤ 8) = false := decide_eq_false (fun h => hk ⟨h1, h⟩)
          clear hk
          go_wp2
          go_roundw
          case rel => exact ⟨i + 1, by omega, by go_num, HB2.out, hid (by rw [HC.out]; exact HO2.out)⟩
          case measure => simp [RowKit.intOf]; omega
        · have d1 : decide (1 ≤ x.v.kind) = false := decide_eq_false h1
          clear hk
          go_wp2
          go_roundw
          case rel => exact ⟨i + 1, by omega, by go_num, HB2.out, hid (by rw [HC.out]; exact HO2.out)⟩
          case measure => simp [RowKit.intOf]; omega
    · have hie : i = es.length := by omega
      subst hie
      clear hbel hrun
      go_wp2
      go_ret
      refine ⟨_, rfl, HB.out, ?_⟩
      unfold cntOut
      rw [cntTo_len]
      exact HO.out
end Go.Proofs.Ytedmancgpjpecaa
