/- Images held against each other; a set of Images as a map with a struct for its key. -/
import Derived.Test.YtedmancgpjpecaaAudLeaf
import Derived.Deep.QuietTactic
import Derived.BigQuiet
import Derived.Maps.OwnSet
import Derived.Maps.OwnOps
import Derived.DeepKeys4
import Derived.MapViews
import Derived.ChangeSame
import Derived.Maps.RangeWalk
import Derived.Maps.Ext
namespace Go.Proofs.Ytedmancgpjpecaa
open Go.RowKit Go.WideMaps Go.Maps Go.ChangeShapes Go.WideShapes Go.ChangeAt
open Go.Lib (hid)

def sameI (a b : ImageD) : Bool := (a.x0.toList == b.x0.toList) && (a.x1 == b.x1)

theorem img_eql (a b : ImageD) (w : World) : (binOp .eql 62 (.agg #[.string a.x0, .int .i64 a.x1]) (.agg #[.string b.x0, .int .i64 b.x1])).run Try.prog w = .ok (.bool (sameI a b)) w := by
  unfold sameI
  cases h : (a.x0.toList == b.x0.toList) <;> cases k : (a.x1 == b.x1) <;> simp [go_sem, h, k]

theorem img_neq (a b : ImageD) (w : World) : (binOp .neq 62 (.agg #[.string a.x0, .int .i64 a.x1]) (.agg #[.string b.x0, .int .i64 b.x1])).run Try.prog w = .ok (.bool (!sameI a b)) w := by
  unfold sameI
  cases h : (a.x0.toList == b.x0.toList) <;> cases k : (a.x1 == b.x1) <;> simp [go_sem, h, k]

theorem sameI_eq {a b : ImageD} : sameI a b = true ↔ a = b := by
  unfold sameI
  rw [Bool.and_eq_true, beq_iff_eq, beq_iff_eq]
  constructor
  · rintro ⟨h1, h2⟩
    cases a
    cases b
    simp only at h1 h2
    rw [Lib.toList_data, Lib.toList_data] at h1
    have h3 := ByteArray.ext (Array.toList_inj.1 h1)
    rw [h3, h2]
  · rintro rfl
    exact ⟨rfl, rfl⟩

/-- Are the Images the same from a place on, of lists that are as long? -/
def imsFrom (a b : List ImageD) (i : Nat) : Bool := (List.range (a.length - i)).all fun k => match a[i + k]?, b[i + k]? with
  | some x, some y => sameI x y
  | _, _ => false

def imsB (a b : List ImageD) : Bool := (a.length == b.length) && imsFrom a b 0

theorem imsFrom_end (a b : List ImageD) : imsFrom a b a.length = true := by simp [imsFrom]

theorem imsFrom_step (a b : List ImageD) (i : Nat) (h : i < a.length) (k : i < b.length) : imsFrom a b i = (sameI a[i] b[i] && imsFrom a b (i + 1)) := by
  unfold imsFrom
  rw [show a.length - i = (a.length - (i + 1)) + 1 by omega, List.range_succ_eq_map, List.all_cons, List.all_map]
  simp only [Nat.add_zero, List.getElem?_eq_getElem h, List.getElem?_eq_getElem k]
  congr 1
  apply congrArg (fun g => List.all (List.range (a.length - (i + 1))) g)
  funext q
  simp only [Function.comp, Nat.succ_eq_add_one]
  rw [show i + (q + 1) = i + 1 + q by omega]

def listedB (l : List ImageD) (x : ImageD) : Bool := l.any fun y => sameI y x

def allB (l ims : List ImageD) : Bool := ims.all (listedB l)

set_option maxRecDepth 20000 in
set_option maxHeartbeats 2000000 in
theorem equal_calls (xs ys : List ImageD) (hn : xs.length ≤ 1048576) (a b : Value) (w : World) (ha : FRow encImage 2 w a xs) (hb : FRow encImage 2 w b ys) :
    Calls Try.prog 64 #[a, b] w fun e w' => e = .returned (.bool (imsB xs ys)) ∧ Below w.heap.size w w' := by
  obtain ⟨p, c, rfl, _, hp⟩ := ha
  obtain ⟨q, d, rfl, _, hq⟩ := hb
  have HP := hid hp
  have HQ := hid hq
  clear hp hq
  obtain ⟨R, hR⟩ : ∃ R, R = imsB xs ys := ⟨_, rfl⟩
  rw [← hR]
  have HR := hid hR
  clear hR
  by_cases hl : xs.length = ys.length
  · have hne : ((xs.length : Int) != (ys.length : Int)) = false := by simp [hl]
    have HR0 := hid (HR.out.trans (show imsB xs ys = imsFrom xs ys 0 by unfold imsB; rw [beq_iff_eq.2 hl]; rfl))
    go_enter Try.func64, Try.ntmps64
    go_wp2
    go_loopw [13] (fun iv wr => ∃ i : Nat, i ≤ xs.length ∧ iv = .int .i64 i ∧ Below w.heap.size w wr ∧ Hid (R = imsFrom xs ys i)) (fun iv _ => xs.length - (RowKit.intOf iv).toNat)
    case atStart => exact ⟨0, Nat.zero_le _, rfl, Below.refl _ _, HR0⟩
    case round =>
      obtain ⟨i, hi, rfl, hbel, HI⟩ := hrel
      have HB := hid hbel
      by_cases hlt : i < xs.length
      · have hlb : i < ys.length := by omega
        obtain ⟨g, o, rfl, hg, hc⟩ := HP.out (fun h => by rw [h] at hlt; cases hlt)
        obtain ⟨g2, o2, rfl, hg2, hc2⟩ := HQ.out (fun h => by rw [h] at hlb; cases hlb)
        have b1 : (0 : Int) ≤ (i : Int) := by omega
        have b2 : (i : Int) < (xs.length : Int) := by omega
        have b3 : (i : Int) < (ys.length : Int) := by omega
        have k0 : wr.cell? ⟨g, o + i * 2, none⟩ = some (.string xs[i].x0) := (hbel.cell (p := ⟨g, o + i * 2, none⟩) hg).trans (hc i hlt 0 (by decide))
        have k1 : wr.cell? ⟨g, o + i * 2 + 1, none⟩ = some (.int .i64 xs[i].x1) := (hbel.cell (p := ⟨g, o + i * 2 + 1, none⟩) hg).trans (hc i hlt 1 (by decide))
        have l0 : wr.cell? ⟨g2, o2 + i * 2, none⟩ = some (.string ys[i].x0) := (hbel.cell (p := ⟨g2, o2 + i * 2, none⟩) hg2).trans (hc2 i hlb 0 (by decide))
        have l1 : wr.cell? ⟨g2, o2 + i * 2 + 1, none⟩ = some (.int .i64 ys[i].x1) := (hbel.cell (p := ⟨g2, o2 + i * 2 + 1, none⟩) hg2).trans (hc2 i hlb 1 (by decide))
        have HS := hid (imsFrom_step xs ys i hlt hlb)
        clear hc hc2 hbel
        generalize xs[i] = x at *
        generalize ys[i] = y at *
        have hq := fun W => img_neq x y W
        cases hs : sameI x y with
        | true =>
          rw [hs] at HS hq
          clear hs
          have hq2 : ∀ W : World, (binOp .neq 62 (.agg #[.string x.x0, .int .i64 x.x1]) (.agg #[.string y.x0, .int .i64 y.x1])).run Try.prog W = .ok (.bool false) W := hq
          clear hq
          go_wp2
          go_quiet (fail)
          go_wp2
          go_roundw
          case rel => exact ⟨i + 1, by omega, by go_num, by first | exact HB.out | exact drewN_below HB.out _, hid (by rw [HI.out, HS.out]; rfl)⟩
          case measure => simp [RowKit.intOf]; omega
        | false =>
          rw [hs] at HS hq
          clear hs
          have hq2 : ∀ W : World, (binOp .neq 62 (.agg #[.string x.x0, .int .i64 x.x1]) (.agg #[.string y.x0, .int .i64 y.x1])).run Try.prog W = .ok (.bool true) W := hq
          clear hq
          go_wp2
          go_quiet (fail)
          go_wp2
          go_ret
          exact ⟨by rw [HI.out, HS.out]; rfl, by first | exact HB.out | exact drewN_below HB.out _⟩
      · have hie : i = xs.length := by omega
        subst hie
        clear hbel
        go_wp2
        go_ret
        exact ⟨by rw [HI.out, imsFrom_end]; rfl, HB.out⟩
  · have hne : ((xs.length : Int) != (ys.length : Int)) = true := by simp; omega
    have HR0 := hid (HR.out.trans (show imsB xs ys = false by unfold imsB; rw [beq_eq_false_iff_ne.2 hl]; rfl))
    go_enter Try.func64, Try.ntmps64
    go_wp2
    go_ret
    exact ⟨by rw [HR0.out]; rfl, Below.refl _ _⟩

set_option maxRecDepth 20000 in
set_option maxHeartbeats 2000000 in
theorem images_spec (xs ys : List ImageD) (hn : xs.length ≤ 1048576) (a b : Value) (w : World) (ha : FRow encImage 2 w a xs) (hb : FRow encImage 2 w b ys) :
    Calls Try.prog 60 #[a, b] w fun e w' => e = .returned (.bool (imsB xs ys)) ∧ Below w.heap.size w w' := by
  obtain ⟨p, c, rfl, _, hp⟩ := ha
  obtain ⟨q, d, rfl, _, hq⟩ := hb
  have HP := hid hp
  have HQ := hid hq
  clear hp hq
  obtain ⟨R, hR⟩ : ∃ R, R = imsB xs ys := ⟨_, rfl⟩
  rw [← hR]
  have HR := hid hR
  clear hR
  by_cases hl : xs.length = ys.length
  · have hne : ((xs.length : Int) != (ys.length : Int)) = false := by simp [hl]
    have HR0 := hid (HR.out.trans (show imsB xs ys = imsFrom xs ys 0 by unfold imsB; rw [beq_iff_eq.2 hl]; rfl))
    go_enter Try.func60, Try.ntmps60
    go_wp2
    go_loopw [5] (fun iv wr => ∃ i : Nat, i ≤ xs.length ∧ iv = .int .i64 i ∧ Below w.heap.size w wr ∧ Hid (R = imsFrom xs ys i)) (fun iv _ => xs.length - (RowKit.intOf iv).toNat)
    case atStart => exact ⟨0, Nat.zero_le _, rfl, Below.refl _ _, HR0⟩
    case round =>
      obtain ⟨i, hi, rfl, hbel, HI⟩ := hrel
      have HB := hid hbel
      by_cases hlt : i < xs.length
      · have hlb : i < ys.length := by omega
        obtain ⟨g, o, rfl, hg, hc⟩ := HP.out (fun h => by rw [h] at hlt; cases hlt)
        obtain ⟨g2, o2, rfl, hg2, hc2⟩ := HQ.out (fun h => by rw [h] at hlb; cases hlb)
        have b1 : (0 : Int) ≤ (i : Int) := by omega
        have b2 : (i : Int) < (xs.length : Int) := by omega
        have b3 : (i : Int) < (ys.length : Int) := by omega
        have k0 : wr.cell? ⟨g, o + i * 2, none⟩ = some (.string xs[i].x0) := (hbel.cell (p := ⟨g, o + i * 2, none⟩) hg).trans (hc i hlt 0 (by decide))
        have k1 : wr.cell? ⟨g, o + i * 2 + 1, none⟩ = some (.int .i64 xs[i].x1) := (hbel.cell (p := ⟨g, o + i * 2 + 1, none⟩) hg).trans (hc i hlt 1 (by decide))
        have l0 : wr.cell? ⟨g2, o2 + i * 2, none⟩ = some (.string ys[i].x0) := (hbel.cell (p := ⟨g2, o2 + i * 2, none⟩) hg2).trans (hc2 i hlb 0 (by decide))
        have l1 : wr.cell? ⟨g2, o2 + i * 2 + 1, none⟩ = some (.int .i64 ys[i].x1) := (hbel.cell (p := ⟨g2, o2 + i * 2 + 1, none⟩) hg2).trans (hc2 i hlb 1 (by decide))
        have HS := hid (imsFrom_step xs ys i hlt hlb)
        clear hc hc2 hbel
        generalize xs[i] = x at *
        generalize ys[i] = y at *
        have hq := fun W => img_neq x y W
        cases hs : sameI x y with
        | true =>
          rw [hs] at HS hq
          clear hs
          have hq2 : ∀ W : World, (binOp .neq 62 (.agg #[.string x.x0, .int .i64 x.x1]) (.agg #[.string y.x0, .int .i64 y.x1])).run Try.prog W = .ok (.bool false) W := hq
          clear hq
          go_wp2
          go_quiet (fail)
          go_wp2
          go_roundw
          case rel => exact ⟨i + 1, by omega, by go_num, by first | exact HB.out | exact drewN_below HB.out _, hid (by rw [HI.out, HS.out]; rfl)⟩
          case measure => simp [RowKit.intOf]; omega
        | false =>
          rw [hs] at HS hq
          clear hs
          have hq2 : ∀ W : World, (binOp .neq 62 (.agg #[.string x.x0, .int .i64 x.x1]) (.agg #[.string y.x0, .int .i64 y.x1])).run Try.prog W = .ok (.bool true) W := hq
          clear hq
          go_wp2
          go_quiet (fail)
          go_wp2
          go_ret
          exact ⟨by rw [HI.out, HS.out]; rfl, by first | exact HB.out | exact drewN_below HB.out _⟩
      · have hie : i = xs.length := by omega
        subst hie
        clear hbel
        go_wp2
        go_ret
        exact ⟨by rw [HI.out, imsFrom_end]; rfl, HB.out⟩
  · have hne : ((xs.length : Int) != (ys.length : Int)) = true := by simp; omega
    have HR0 := hid (HR.out.trans (show imsB xs ys = false by unfold imsB; rw [beq_eq_false_iff_ne.2 hl]; rfl))
    go_enter Try.func60, Try.ntmps60
    go_wp2
    go_ret
    exact ⟨by rw [HR0.out]; rfl, Below.refl _ _⟩

set_option maxRecDepth 20000 in
set_option maxHeartbeats 2000000 in
theorem listed_spec (ls : List ImageD) (hn : ls.length ≤ 1048576) (x : ImageD) (a : Value) (w : World) (ha : FRow encImage 2 w a ls) :
    Calls Try.prog 59 #[a, .agg #[.string x.x0, .int .i64 x.x1]] w fun e w' => e = .returned (.bool (listedB ls x)) ∧ Below w.heap.size w w' := by
  obtain ⟨p, c, rfl, _, hp⟩ := ha
  have HP := hid hp
  clear hp
  obtain ⟨R, hR⟩ : ∃ R, R = listedB ls x := ⟨_, rfl⟩
  rw [← hR]
  have HR := hid (show R = (ls.drop 0).any (fun y => sameI y x) from hR)
  clear hR
  obtain ⟨w1, hw1⟩ : ∃ W, W = w.alloc (.cells #[.string x.x0, .int .i64 x.x1] 62) := ⟨_, rfl⟩
  have HV : Hid (w1.heap[w.heap.size]? = some (.cells #[.string x.x0, .int .i64 x.x1] 62)) := hid (by rw [hw1]; exact heap_alloc_new _ _)
  have HB1 : Hid (Below w.heap.size w w1) := hid (by rw [hw1]; exact (Below.refl _ _).alloc (Nat.le_refl _) _)
  have hz1 : w.heap.size < w1.heap.size := by rw [hw1]; simp
  have HW1 := hid hw1
  clear hw1
  go_enter Try.func59, Try.ntmps59
  go_wp2
  go_loopw [5] (fun iv wr => ∃ i : Nat, i ≤ ls.length ∧ iv = .int .i64 i ∧ Below w1.heap.size w1 wr ∧ Hid (R = (ls.drop i).any (fun y => sameI y x))) (fun iv _ => ls.length - (RowKit.intOf iv).toNat)
  case atStart => exact ⟨0, Nat.zero_le _, rfl, by rw [← HW1.out]; exact Below.refl _ _, HR⟩
  case round =>
    obtain ⟨i, hi, rfl, hbel, HI⟩ := hrel
    have HB := hid (HB1.out.trans (hbel.mono HB1.out.size))
    have HB2 := hid hbel
    by_cases hlt : i < ls.length
    · obtain ⟨g, o, rfl, hg, hc⟩ := HP.out (fun h => by rw [h] at hlt; cases hlt)
      have b1 : (0 : Int) ≤ (i : Int) := by omega
      have b2 : (i : Int) < (ls.length : Int) := by omega
      have k0 : wr.cell? ⟨g, o + i * 2, none⟩ = some (.string ls[i].x0) := (HB.out.cell (p := ⟨g, o + i * 2, none⟩) hg).trans (hc i hlt 0 (by decide))
      have k1 : wr.cell? ⟨g, o + i * 2 + 1, none⟩ = some (.int .i64 ls[i].x1) := (HB.out.cell (p := ⟨g, o + i * 2 + 1, none⟩) hg).trans (hc i hlt 1 (by decide))
      have q0 := (cell_of_row _ _ 0 _ _ _ ((hbel.block _ hz1).trans HV.out)).trans rfl
      have q1 := (cell_of_row _ _ 1 _ _ _ ((hbel.block _ hz1).trans HV.out)).trans rfl
      have HS := hid (show (ls.drop i).any (fun y => sameI y x) = (sameI ls[i] x || (ls.drop (i + 1)).any (fun y => sameI y x)) by rw [List.drop_eq_getElem_cons hlt, List.any_cons])
      clear hc hbel
      generalize ls[i] = y at *
      have hq := fun W => img_eql y x W
      cases hs : sameI y x with
      | true =>
        rw [hs] at HS hq
        clear hs
        go_wp2
        go_quiet (fail)
        go_wp2
        go_ret
        exact ⟨by rw [HI.out, HS.out]; rfl, by first | exact HB.out | exact drewN_below HB.out _⟩
      | false =>
        rw [hs] at HS hq
        clear hs
        go_wp2
        go_quiet (fail)
        go_wp2
        go_roundw
        case rel => exact ⟨i + 1, by omega, by go_num, by first | exact HB2.out | exact drewN_below HB2.out _, hid (by rw [HI.out, HS.out]; rfl)⟩
        case measure => simp [RowKit.intOf]; omega
    · have hie : i = ls.length := by omega
      subst hie
      clear hbel
      go_wp2
      go_ret
      exact ⟨by rw [HI.out, List.drop_of_length_le (Nat.le_refl _)]; rfl, HB.out⟩


set_option maxRecDepth 20000 in
set_option maxHeartbeats 2000000 in
theorem all_spec (ls ims : List ImageD) (hn : ls.length ≤ 1048576) (hm : ims.length ≤ 1048576) (a b : Value) (w : World) (ha : FRow encImage 2 w a ls) (hb : FRow encImage 2 w b ims) :
    Calls Try.prog 42 #[a, b] w fun e w' => e = .returned (.bool (allB ls ims)) ∧ Below w.heap.size w w' := by
  have HA := hid (fun (x : ImageD) W (hW : Below w.heap.size w W) => listed_spec ls hn x a W (ha.on hW))
  clear ha
  obtain ⟨p, c, rfl, _, hp⟩ := hb
  have HP := hid hp
  clear hp
  obtain ⟨R, hR⟩ : ∃ R, R = allB ls ims := ⟨_, rfl⟩
  rw [← hR]
  have HR := hid (show R = (ims.drop 0).all (listedB ls) from hR)
  clear hR
  go_enter Try.func42, Try.ntmps42
  go_wp2
  go_loopw [5] (fun iv wr => ∃ i : Nat, i ≤ ims.length ∧ iv = .int .i64 i ∧ Below w.heap.size w wr ∧ Hid (R = (ims.drop i).all (listedB ls))) (fun iv _ => ims.length - (RowKit.intOf iv).toNat)
  case atStart => exact ⟨0, Nat.zero_le _, rfl, Below.refl _ _, HR⟩
  case round =>
    obtain ⟨i, hi, rfl, hbel, HI⟩ := hrel
    have HB := hid hbel
    by_cases hlt : i < ims.length
    · obtain ⟨g, o, rfl, hg, hc⟩ := HP.out (fun h => by rw [h] at hlt; cases hlt)
      have b1 : (0 : Int) ≤ (i : Int) := by omega
      have b2 : (i : Int) < (ims.length : Int) := by omega
      have k0 : wr.cell? ⟨g, o + i * 2, none⟩ = some (.string ims[i].x0) := (HB.out.cell (p := ⟨g, o + i * 2, none⟩) hg).trans (hc i hlt 0 (by decide))
      have k1 : wr.cell? ⟨g, o + i * 2 + 1, none⟩ = some (.int .i64 ims[i].x1) := (HB.out.cell (p := ⟨g, o + i * 2 + 1, none⟩) hg).trans (hc i hlt 1 (by decide))
      have HS := hid (show (ims.drop i).all (listedB ls) = (listedB ls ims[i] && (ims.drop (i + 1)).all (listedB ls)) by rw [List.drop_eq_getElem_cons hlt, List.all_cons])
      clear hc hbel
      generalize ims[i] = x at *
      have CX := hid (fun W hW => HA.out x W hW)
      cases hs : listedB ls x with
      | false =>
        rw [hs] at HS CX
        clear hs
        go_wp2_with (go_at_call 59; refine (CX.out _ HB.out).mono ?_; rintro e w2 ⟨rfl, hb2⟩; have HB2 := hid (HB.out.trans (hb2.mono HB.out.size)); clear hb2; refine Hid.out ?_)
        refine hid ?_
        go_wp2
        go_ret
        exact ⟨by rw [HI.out, HS.out]; rfl, HB2.out⟩
      | true =>
        rw [hs] at HS CX
        clear hs
        go_wp2_with (go_at_call 59; refine (CX.out _ HB.out).mono ?_; rintro e w2 ⟨rfl, hb2⟩; have HB2 := hid (HB.out.trans (hb2.mono HB.out.size)); clear hb2; refine Hid.out ?_)
        refine hid ?_
        go_wp2
        go_roundw
        case rel => exact ⟨i + 1, by omega, by go_num, HB2.out, hid (by rw [HI.out, HS.out]; rfl)⟩
        case measure => simp [RowKit.intOf]; omega
    · have hie : i = ims.length := by omega
      subst hie
      clear hbel
      go_wp2
      go_ret
      exact ⟨by rw [HI.out, List.drop_of_length_le (Nat.le_refl _)]; rfl, HB.out⟩
end Go.Proofs.Ytedmancgpjpecaa
