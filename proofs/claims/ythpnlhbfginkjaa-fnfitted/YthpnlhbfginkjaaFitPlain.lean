/- A clock that is fitted: what it is, plainly. -/
import Derived.Test.YthpnlhbfginkjaaBlendKit
import Derived.Test.YthpnlhbfginkjaaDriftBoth
namespace Go.Proofs.Ythpnlhbfginkjaa
open Go.RowKit
open Go.Lib (hid)

def tkB (t : Int) : Bool := decide (0 ≤ t ∧ t ≤ 1000000)

def okT (zs : List (Int × Nat)) : Bool := zs.all fun z => tkB z.1

/-- The readings that are known, the ticks as numbers. -/
def rds (zs : List (Int × Nat)) : List (Nat × Nat) := (zs.filter fun z => finB z.2).map fun z => (floatOfInt .f64 z.1, z.2)

def sqs (ks : List (Nat × Nat)) : List (Nat × Nat) := ks.map fun p => (p.1, p.1)

def cntO (ks : List (Nat × Nat)) : Option Nat := some (floatOfInt .f64 (ks.length : Int))
def sxO (ks : List (Nat × Nat)) : Option Nat := sumO (ks.map Prod.fst)
def syO (ks : List (Nat × Nat)) : Option Nat := sumO (ks.map Prod.snd)
def topO (ks : List (Nat × Nat)) : Option Nat := fop .sub (fop .mul (cntO ks) (psum ks)) (fop .mul (sxO ks) (syO ks))
def undO (ks : List (Nat × Nat)) : Option Nat := fop .sub (fop .mul (cntO ks) (psum (sqs ks))) (fop .mul (sxO ks) (sxO ks))
def rateO (ks : List (Nat × Nat)) : Option Nat := fop .quo (topO ks) (undO ks)
def offO (ks : List (Nat × Nat)) : Option Nat := fop .quo (fop .sub (syO ks) (fop .mul (rateO ks) (sxO ks))) (cntO ks)

def drO : Option Nat → Option Nat → Bool
  | some a, some b => drB a b
  | _, _ => false

theorem drO_of {o p : Option Nat} {r s : Nat} (h1 : FS o r) (h2 : FS p s) : drB r s = drO o p := by
  cases o with
  | none =>
    have : nanB r = true := h1
    unfold drB drO
    rw [nan_notfin this]
    rfl
  | some a =>
    have e1 : r = a := h1
    subst e1
    cases p with
    | none =>
      have : nanB s = true := h2
      unfold drB drO
      rw [nan_notfin this, Bool.and_false]
      rfl
    | some b =>
      have e2 : s = b := h2
      subst e2
      rfl

/-- What is told of readings that are as many as the ticks. -/
def fitO (zs : List (Int × Nat)) : Option (Option Nat × Option Nat) :=
  if okT zs = true ∧ 2 ≤ (rds zs).length ∧ drO (rateO (rds zs)) (offO (rds zs)) = true then some (rateO (rds zs), offO (rds zs)) else none

def FitIs (q : Option (Option Nat × Option Nat)) (r s : Nat) (b : Bool) : Prop := match q with
  | none => b = false ∧ r = 0 ∧ s = 0
  | some (o, p) => b = true ∧ FS o r ∧ FS p s

def FitPost (q : Option (Option Nat × Option Nat)) (w : World) (e : Ending) (w' : World) : Prop :=
  ∃ r s b, e = .returned (.tuple #[.agg #[.float .f64 r, .float .f64 s], .bool b]) ∧ FitIs q r s b ∧ Below w.heap.size w w'

theorem fit_post {q : Option (Option Nat × Option Nat)} {w : World} {e : Ending} {w' : World} (r s : Nat) (b : Bool) (h1 : e = .returned (.tuple #[.agg #[.float .f64 r, .float .f64 s], .bool b])) (h2 : FitIs q r s b) (h3 : Below w.heap.size w w') : FitPost q w e w' := ⟨r, s, b, h1, h2, h3⟩

theorem okT_next (zs : List (Int × Nat)) (i : Nat) (h : i < zs.length) : okT (zs.take (i + 1)) = (okT (zs.take i) && tkB zs[i].1) := by
  unfold okT
  rw [List.take_succ_eq_append_getElem h, List.all_append]
  simp

theorem okT_no (zs : List (Int × Nat)) (i : Nat) (h : i < zs.length) (hn : tkB zs[i].1 = false) : okT zs = false := by
  unfold okT
  rw [List.all_eq_false]
  exact ⟨zs[i], List.getElem_mem h, by rw [hn]; simp⟩

theorem rds_next (zs : List (Int × Nat)) (i : Nat) (h : i < zs.length) : rds (zs.take (i + 1)) = if finB zs[i].2 = true then rds (zs.take i) ++ [(floatOfInt .f64 zs[i].1, zs[i].2)] else rds (zs.take i) := by
  unfold rds
  rw [List.take_succ_eq_append_getElem h, List.filter_append, List.map_append]
  by_cases hb : finB zs[i].2 = true
  · rw [if_pos hb, List.filter_cons_of_pos (p := fun z : Int × Nat => finB z.2) (a := zs[i]) hb]; rfl
  · rw [if_neg hb, List.filter_cons_of_neg (p := fun z : Int × Nat => finB z.2) (a := zs[i]) hb]; simp

theorem rds_few (zs : List (Int × Nat)) : (rds zs).length ≤ zs.length := by
  unfold rds
  rw [List.length_map]
  exact List.length_filter_le _ _

theorem sum_put (l : List Nat) (x : Nat) : sumO (l ++ [x]) = fop .add (sumO l) (some x) := by
  unfold sumO
  rw [List.foldl_append]
  rfl

theorem psum_put (l : List (Nat × Nat)) (p : Nat × Nat) : psum (l ++ [p]) = fop .add (psum l) (fop .mul (some p.1) (some p.2)) := by
  unfold psum
  rw [List.foldl_append]
  rfl

theorem count_add (k : Nat) (h : k ≤ 100) : floatBits .add .f64 (floatOfInt .f64 (k : Int)) 4607182418800017408 = some (floatOfInt .f64 ((k + 1 : Nat) : Int)) := by
  have key : ∀ i : Fin 101, floatBits .add .f64 (floatOfInt .f64 ((i.val : Nat) : Int)) 4607182418800017408 = some (floatOfInt .f64 ((i.val + 1 : Nat) : Int)) := by decide +kernel
  exact key ⟨k, by omega⟩

theorem count_two (k : Nat) (h : k ≤ 100) : (FloatKind.f64.format.order (floatOfInt .f64 (k : Int)) 4611686018427387904 == some .lt) = decide (k < 2) := by
  have key : ∀ i : Fin 101, (FloatKind.f64.format.order (floatOfInt .f64 ((i.val : Nat) : Int)) 4611686018427387904 == some .lt) = decide (i.val < 2) := by decide +kernel
  exact key ⟨k, by omega⟩

/-- Where the sums stand. -/
structure Sums (ks : List (Nat × Nat)) (n sx sy sxx sxy : Nat) : Prop where
  cnt : n = floatOfInt .f64 (ks.length : Int)
  x : FS (sxO ks) sx
  y : FS (syO ks) sy
  xx : FS (psum (sqs ks)) sxx
  xy : FS (psum ks) sxy

theorem Sums.put {ks : List (Nat × Nat)} {n sx sy sxx sxy : Nat} (h : Sums ks n sx sy sxx sxy) (hk : ks.length ≤ 100) (x y : Nat) (w1 w2 w3 w4 w5 w6 w7 : World) :
    Sums (ks ++ [(x, y)]) (fb .add n 4607182418800017408 w1) (fb .add sx x w2) (fb .add sy y w3) (fb .add sxx (fb .mul x x w4) w5) (fb .add sxy (fb .mul x y w6) w7) := by
  refine ⟨?_, ?_, ?_, ?_, ?_⟩
  · rw [h.cnt, fb_some (count_add _ hk), List.length_append]
    rfl
  · unfold sxO
    rw [List.map_append, List.map_singleton, sum_put]
    exact FS.op .add h.x (FS.some x) _
  · unfold syO
    rw [List.map_append, List.map_singleton, sum_put]
    exact FS.op .add h.y (FS.some y) _
  · unfold sqs
    rw [List.map_append, List.map_singleton, psum_put]
    exact FS.op .add h.xx (FS.op .mul (FS.some x) (FS.some x) _) _
  · rw [psum_put]
    exact FS.op .add h.xy (FS.op .mul (FS.some x) (FS.some y) _) _

theorem Sums.start : Sums [] 0 0 0 0 0 := ⟨by decide +kernel, FS.some 0, FS.some 0, FS.some 0, FS.some 0⟩

/-- A row of ticks out of a list of readings. -/
theorem row_tk {f : Int × Nat → Int} {zs : List (Int × Nat)} {w : World} {a : Value} (h : RowIn w a (zs.map f)) :
    ∃ p c, a = .slice p zs.length c ∧ (zs ≠ [] → ∃ g o, p = some ⟨g, o, none⟩ ∧ g < w.heap.size ∧ ∀ j (h : j < zs.length), w.cell? ⟨g, o + j, none⟩ = some (.int .i64 (f zs[j]))) := by
  obtain ⟨p, c, rfl, _, hp⟩ := h
  refine ⟨p, c, by rw [List.length_map], fun hne => ?_⟩
  obtain ⟨g, o, rfl, hg, hc⟩ := hp (by simpa using hne)
  refine ⟨g, o, rfl, hg, fun j hj => ?_⟩
  have := hc j (by simpa using hj)
  simpa using this
end Go.Proofs.Ythpnlhbfginkjaa
