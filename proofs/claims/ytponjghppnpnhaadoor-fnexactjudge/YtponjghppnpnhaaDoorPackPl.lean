/- Laid together: RisingPlain, PolPlain, PolImpl. -/
import Derived.Test.YtponjghppnpnhaaDoorMakePlain
import Derived.Lib.SlicesCompact
import Derived.Test.YtponjghppnpnhaaDoorNonceBoth
import Derived.Test.YtponjghppnpnhaaDoorRowRef
import Derived.Sort.Walk0

namespace Go.Proofs.YtponjghppnpnhaaDoor

def Rising (l : List (List UInt8)) : Prop := l.Pairwise (fun a b => a < b)

theorem rising_unique : ∀ {a b : List (List UInt8)}, Rising a → Rising b → (∀ x, x ∈ a ↔ x ∈ b) → a = b
  | [], [], _, _, _ => rfl
  | [], y :: _, _, _, h => by have := (h y).2 (by simp); cases this
  | x :: _, [], _, _, h => by have := (h x).1 (by simp); cases this
  | x :: r, y :: q, ha, hb, h => by
    obtain ⟨ha1, ha2⟩ := List.pairwise_cons.1 ha
    obtain ⟨hb1, hb2⟩ := List.pairwise_cons.1 hb
    have hxy : x = y := by
      rcases List.mem_cons.1 ((h x).1 (by simp)) with e | hx
      · exact e
      · rcases List.mem_cons.1 ((h y).2 (by simp)) with e | hy
        · exact e.symm
        · exact absurd (List.lt_trans (hb1 x hx) (ha1 y hy)) (List.lt_irrefl y)
    subst hxy
    have hrq : ∀ z, z ∈ r ↔ z ∈ q := by
      intro z
      constructor
      · intro hz
        rcases List.mem_cons.1 ((h z).1 (List.mem_cons_of_mem _ hz)) with e | hz'
        · subst e; exact absurd (ha1 _ hz) (List.lt_irrefl _)
        · exact hz'
      · intro hz
        rcases List.mem_cons.1 ((h z).2 (List.mem_cons_of_mem _ hz)) with e | hz'
        · subst e; exact absurd (hb1 _ hz) (List.lt_irrefl _)
        · exact hz'
    rw [rising_unique ha2 hb2 hrq]

/-- A text put in at its place. -/
theorem rising_put {o : List (List UInt8)} {x : List UInt8} {k : Nat} (ho : Rising o) (h1 : ∀ z ∈ o.drop k, x < z) (h2 : ∀ z ∈ o.take k, z < x) : Rising (o.take k ++ x :: o.drop k) := by
  unfold Rising at ho ⊢
  rw [← List.take_append_drop k o, List.pairwise_append] at ho
  rw [List.pairwise_append]
  refine ⟨ho.1, ?_, ?_⟩
  · rw [List.pairwise_cons]
    exact ⟨h1, ho.2.1⟩
  · intro a ha b hb
    rcases List.mem_cons.1 hb with rfl | hb
    · exact h2 a ha
    · exact ho.2.2 a ha b hb

/-- All ahead of a place are below, when the one ahead of it is. -/
theorem rising_below {o : List (List UInt8)} {x : List UInt8} {k : Nat} (ho : Rising o) (hk : k ≤ o.length) (h : ∀ (h0 : 0 < k), o[k - 1]'(by omega) < x) : ∀ z ∈ o.take k, z < x := by
  intro z hz
  obtain ⟨j, hj, rfl⟩ := List.getElem_of_mem hz
  rw [List.length_take] at hj
  rw [List.getElem_take]
  by_cases hjk : j = k - 1
  · subst hjk
    exact h (by omega)
  · have hp := List.pairwise_iff_getElem.1 ho j (k - 1) (by omega) (by omega) (by omega)
    exact List.lt_trans hp (h (by omega))

theorem compactUpTo_rising (zs : List (List UInt8)) (hs : zs.Pairwise (fun a b => a ≤ b)) : ∀ m, m ≤ zs.length →
    Rising (Lib.compactUpTo zs.toArray m) ∧ (∀ x, x ∈ Lib.compactUpTo zs.toArray m ↔ x ∈ zs.take m) ∧ ∀ x ∈ Lib.compactUpTo zs.toArray m, ∀ (_ : 0 < m) (hm : m - 1 < zs.length), x ≤ zs[m - 1] := by
  intro m
  induction m with
  | zero =>
    intro _
    refine ⟨?_, ?_, ?_⟩
    · simp [Rising, Lib.compactUpTo]
    · intro x; simp [Lib.compactUpTo]
    · intro x hx; simp [Lib.compactUpTo] at hx
  | succ m ih =>
    intro hm
    obtain ⟨h1, h2, h3⟩ := ih (by omega)
    have hget : ∀ j, j < zs.length → zs.toArray[j]! = zs[j]! := fun j hj => by simp
    have hz : zs.toArray[m]! = zs[m] := by simp [getElem!_pos, show m < zs.length by omega]
    have hmem : ∀ x, x ∈ zs.take (m + 1) ↔ x ∈ zs.take m ∨ x = zs[m] := fun x => by
      rw [List.take_succ_eq_append_getElem (by omega), List.mem_append, List.mem_singleton]
    rw [Lib.compactUpTo_succ]
    by_cases hk : Lib.keeps zs.toArray m = true
    · rw [if_pos hk, hz]
      have hbelow : ∀ x ∈ Lib.compactUpTo zs.toArray m, x < zs[m] := by
        intro x hx
        by_cases h0 : m = 0
        · subst h0; simp [Lib.compactUpTo] at hx
        · have hle := h3 x hx (by omega) (by omega)
          have hne : zs[m - 1] ≠ zs[m] := by
            intro e
            simp only [Lib.keeps, decide_eq_true_eq] at hk
            rcases hk with hk | hk
            · exact h0 hk
            · apply hk
              rw [hz]
              simp [getElem!_pos, show m - 1 < zs.length by omega, e]
          have hlt : zs[m - 1] < zs[m] := by
            have hle2 := List.pairwise_iff_getElem.1 hs (m - 1) m (by omega) (by omega) (by omega)
            rcases Classical.em (zs[m - 1] < zs[m]) with h | h
            · exact h
            · exact absurd (List.le_antisymm hle2 (List.not_lt.1 h)) hne
          rcases Classical.em (x < zs[m]) with h | h
          · exact h
          · exfalso
            have h5 : zs[m] ≤ x := List.not_lt.1 h
            have h6 := List.le_trans h5 hle
            exact (List.not_lt.2 h6) hlt
      refine ⟨?_, ?_, ?_⟩
      · unfold Rising
        rw [List.pairwise_append]
        refine ⟨h1, by simp, ?_⟩
        intro a ha b hb
        have : b = zs[m] := by simpa using hb
        subst this
        exact hbelow a ha
      · intro x
        rw [List.mem_append, h2, List.mem_singleton, hmem]
      · intro x hx _ _
        simp only [Nat.add_sub_cancel]
        rcases List.mem_append.1 hx with hx | hx
        · exact List.le_of_lt (hbelow x hx)
        · have : x = zs[m] := by simpa using hx
          subst this
          exact List.le_refl _
    · rw [if_neg hk, List.append_nil]
      have hk' : ¬ (m = 0 ∨ zs.toArray[m]! ≠ zs.toArray[m - 1]!) := by
        intro h
        apply hk
        simp only [Lib.keeps, decide_eq_true_eq]
        exact h
      have h0 : 0 < m := by
        rcases Nat.eq_zero_or_pos m with h | h
        · exact absurd (Or.inl h) hk'
        · exact h
      have he : zs[m] = zs[m - 1] := by
        rcases Classical.em (zs[m] = zs[m - 1]) with h | h
        · exact h
        · exfalso
          apply hk'
          refine Or.inr ?_
          rw [hz]
          simp [getElem!_pos, show m - 1 < zs.length by omega]
          exact h
      refine ⟨h1, ?_, ?_⟩
      · intro x
        rw [h2, hmem]
        constructor
        · exact Or.inl
        · rintro (h | h)
          · exact h
          · rw [h, he]
            exact List.mem_take_iff_getElem.2 ⟨m - 1, by omega, rfl⟩
      · intro x hx _ _
        simp only [Nat.add_sub_cancel]
        rw [he]
        exact h3 x hx h0 (by omega)

/-- A sorted list of which repeats are struck is rising, and has what it had. -/
theorem compact_rising (zs : List (List UInt8)) (hs : zs.Pairwise (fun a b => a ≤ b)) : Rising (Lib.compact zs) ∧ ∀ x, x ∈ Lib.compact zs ↔ x ∈ zs := by
  obtain ⟨h1, h2, _⟩ := compactUpTo_rising zs hs zs.length (Nat.le_refl _)
  refine ⟨h1, fun x => ?_⟩
  have := h2 x
  rw [List.take_of_length_le (Nat.le_refl _)] at this
  exact this

theorem sorted_le (ss : List (List UInt8)) : (ss.mergeSort fun x y => decide (x ≤ y)).Pairwise (fun a b => a ≤ b) := by
  have h := List.pairwise_mergeSort (le := fun (x y : List UInt8) => decide (x ≤ y)) (fun a b c h1 h2 => by simp only [decide_eq_true_eq] at *; exact List.le_trans h1 h2) (fun a b => by simp only [Bool.or_eq_true, decide_eq_true_eq]; exact List.le_total a b) ss
  exact h.imp (fun h => by simpa using h)

/-- Sorted, and repeats struck. -/
theorem sort_compact (ss : List (List UInt8)) : Rising (Lib.compact (ss.mergeSort fun x y => decide (x ≤ y))) ∧ ∀ x, x ∈ Lib.compact (ss.mergeSort fun x y => decide (x ≤ y)) ↔ x ∈ ss := by
  obtain ⟨h1, h2⟩ := compact_rising _ (sorted_le ss)
  refine ⟨h1, fun x => ?_⟩
  rw [h2]
  exact (List.mergeSort_perm ss _).mem_iff
end Go.Proofs.YtponjghppnpnhaaDoor

namespace Go.Proofs.YtponjghppnpnhaaDoor
open Go.RowKit
open Go.Lib (hid)

def refB (e : RefD) : Bool := decide (0 ≤ e.x0 ∧ e.x0 ≤ 15) && (nameB e.x1.data.toList && decide (0 ≤ e.x2 ∧ e.x2 ≤ 1000000000))

def sameK (a b : RefD) : Prop := a.x0 = b.x0 ∧ a.x1.data.toList = b.x1.data.toList

instance (a b : RefD) : Decidable (sameK a b) := by unfold sameK; infer_instance

/-- None of the rows ahead has the key of the one at a place. -/
def apartB (es : List RefD) (i n : Nat) : Bool := (List.range n).all fun k => decide (¬ sameK (es.getD k zRef) (es.getD i zRef))

def rowGood (es : List RefD) (i : Nat) : Bool := refB (es.getD i zRef) && apartB es i i

def rowsB (es : List RefD) (n : Nat) : Bool := (List.range n).all (rowGood es)

theorem allr_succ (f : Nat → Bool) (n : Nat) : (List.range (n + 1)).all f = ((List.range n).all f && f n) := by
  rw [List.range_succ, List.all_append]
  simp

theorem allr_no {f : Nat → Bool} {n m : Nat} (h : f n = false) (hm : n < m) : (List.range m).all f = false := by
  rw [Bool.eq_false_iff]
  intro ht
  rw [List.all_eq_true] at ht
  have := ht n (List.mem_range.2 hm)
  rw [h] at this
  cases this

theorem ref_at {es : List RefD} {i : Nat} (h : i < es.length) : es.getD i zRef = es[i] := by simp [List.getD, h]

/-- Is the text at a place a term, and behind the one ahead of it. -/
def risGood (ps : List (List UInt8)) (i : Nat) : Bool := decide ((nodeOf (bytesOf (ps.getD i []))).1 ≠ 0) && decide (0 < i → ps.getD (i - 1) [] < ps.getD i [])

def risB (ps : List (List UInt8)) (n : Nat) : Bool := (List.range n).all (risGood ps)

theorem txt_at {ps : List (List UInt8)} {i : Nat} (h : i < ps.length) : ps.getD i [] = ps[i] := by simp [List.getD, h]

/-- Is it a right Policy. -/
def polB (num : Int) (es : List RefD) (ps : List (List UInt8)) : Bool :=
  decide (0 ≤ num ∧ num ≤ 1000000000) && (decide (es.length ≤ 60) && (decide (ps.length ≤ 60) && (rowsB es es.length && risB ps ps.length)))

/-- Texts held against each other, as the walk asks it. -/
theorem leq_yes {x y : List UInt8} (h : ¬ y < x) : (Op.bytesLess (bytesOf x).toList (bytesOf y).toList || (bytesOf x).toList == (bytesOf y).toList) = true := by
  rw [ByteArray.toList_eq, ByteArray.toList_eq, bytesLess_eq, Bool.or_eq_true]
  show decide (x < y) = true ∨ (x == y) = true
  by_cases he : x = y
  · exact Or.inr (by rw [he]; simp)
  · refine Or.inl (decide_eq_true ?_)
    have hle : x ≤ y := List.not_lt.1 h
    rcases Classical.em (x < y) with h2 | h2
    · exact h2
    · exact absurd (List.le_antisymm hle (List.not_lt.1 h2)) he

theorem leq_no {x y : List UInt8} (h : y < x) : (Op.bytesLess (bytesOf x).toList (bytesOf y).toList || (bytesOf x).toList == (bytesOf y).toList) = false := by
  rw [ByteArray.toList_eq, ByteArray.toList_eq, bytesLess_eq, Bool.or_eq_false_iff]
  show decide (x < y) = false ∧ (x == y) = false
  refine ⟨decide_eq_false (fun e => List.lt_irrefl _ (List.lt_trans h e)), ?_⟩
  rw [beq_eq_false_iff_ne]
  intro e
  rw [e] at h
  exact List.lt_irrefl _ h

theorem three_refs {W : World} {b : Nat} {x0 x1 x2 : Value} {t : TypeId} (h : W.heap[b]? = some (.cells #[x0, x1, x2] t)) :
    W.cell? ⟨b, 0, none⟩ = some x0 ∧ W.cell? ⟨b, 1, none⟩ = some x1 ∧ W.cell? ⟨b, 2, none⟩ = some x2 :=
  ⟨(cell_of_row W b 0 _ _ _ h).trans rfl, (cell_of_row W b 1 _ _ _ h).trans rfl, (cell_of_row W b 2 _ _ _ h).trans rfl⟩

set_option maxRecDepth 20000 in
set_option maxHeartbeats 2000000 in
theorem ref_spec (x : Int) (name : ByteArray) (y : Int) (w : World) :
    Calls Tryd.prog 94 #[.agg #[.int .i64 x, .string name, .int .i64 y]] w fun e w' => e = .returned (.bool (refB ⟨x, name, y⟩)) ∧ Below w.heap.size w w' := by
  have HR : Hid (refB ⟨x, name, y⟩ = (decide (0 ≤ x ∧ x ≤ 15) && (nameB name.data.toList && decide (0 ≤ y ∧ y ≤ 1000000000)))) := hid rfl
  have C1 := hid (fun W => in_any x 0 15 W)
  have C2 := hid (fun W => sname_calls name W)
  have C3 := hid (fun W => in_any y 0 1000000000 W)
  generalize refB ⟨x, name, y⟩ = r at *
  cases h1 : decide (0 ≤ x ∧ x ≤ 15) with
  | false =>
    rw [h1] at C1 HR
    clear h1
    go_enter Tryd.func94, Tryd.ntmps94
    go_wp2_with (go_at_call 109; refine (C1.out _).mono ?_; rintro e wq ⟨rfl, eq⟩; rw [eq]; clear eq wq; refine Hid.out ?_)
    refine hid ?_
    go_wp2
    go_ret
    exact ⟨by rw [HR.out]; rfl, (Below.refl _ _).alloc (Nat.le_refl _) _⟩
  | true =>
    rw [h1] at C1 HR
    clear h1
    cases h2 : nameB name.data.toList with
    | false =>
      rw [h2] at C2 HR
      clear h2
      go_enter Tryd.func94, Tryd.ntmps94
      go_wp2_with (go_at_call 109; refine (C1.out _).mono ?_; rintro e wq ⟨rfl, eq⟩; rw [eq]; clear eq wq; refine Hid.out ?_)
      refine hid ?_
      go_wp2_with (go_at_call 118; refine (C2.out _).mono ?_; rintro e wq ⟨rfl, eq⟩; rw [eq]; clear eq wq; refine Hid.out ?_)
      refine hid ?_
      go_wp2
      go_ret
      exact ⟨by rw [HR.out]; rfl, (Below.refl _ _).alloc (Nat.le_refl _) _⟩
    | true =>
      rw [h2] at C2 HR
      clear h2
      generalize decide (0 ≤ y ∧ y ≤ 1000000000) = b3 at *
      go_enter Tryd.func94, Tryd.ntmps94
      go_wp2_with (go_at_call 109; refine (C1.out _).mono ?_; rintro e wq ⟨rfl, eq⟩; rw [eq]; clear eq wq; refine Hid.out ?_)
      refine hid ?_
      go_wp2_with (go_at_call 118; refine (C2.out _).mono ?_; rintro e wq ⟨rfl, eq⟩; rw [eq]; clear eq wq; refine Hid.out ?_)
      refine hid ?_
      go_wp2_with (go_at_call 109; refine (C3.out _).mono ?_; rintro e wq ⟨rfl, eq⟩; rw [eq]; clear eq wq; refine Hid.out ?_)
      refine hid ?_
      go_wp2
      go_ret
      exact ⟨by rw [HR.out]; rfl, (Below.refl _ _).alloc (Nat.le_refl _) _⟩
end Go.Proofs.YtponjghppnpnhaaDoor

namespace Go.Proofs.YtponjghppnpnhaaDoor
open Go.RowKit
open Go.Lib (hid)

theorem pname_node (x : ByteArray) : nameB x.data.toList = decide ((nodeOf x).1 = 1) := name_node x

theorem less_yes {x y : List UInt8} (h : x < y) : Op.bytesLess (bytesOf x).toList (bytesOf y).toList = true := by
  rw [ByteArray.toList_eq, ByteArray.toList_eq, bytesLess_eq]
  exact decide_eq_true h

theorem less_no {x y : List UInt8} (h : ¬ x < y) : Op.bytesLess (bytesOf x).toList (bytesOf y).toList = false := by
  rw [ByteArray.toList_eq, ByteArray.toList_eq, bytesLess_eq]
  exact decide_eq_false h

set_option maxRecDepth 20000 in
set_option maxHeartbeats 2000000 in
theorem right_calls (x : Int) (name : ByteArray) (y : Int) (w : World) (hT : Tab w) (hG : 0 < w.heap.size) (hP : Lib.TabIs Tryd.prog w "internal/strconv.uint64pow10" .u64 Lib.pow10Tab) :
    Calls Tryd.prog 164 #[.agg #[.int .i64 x, .string name, .int .i64 y]] w fun e w' => e = .returned (.bool (refB ⟨x, name, y⟩)) ∧ Below w.heap.size w w' := by
  have HR : Hid (refB ⟨x, name, y⟩ = (decide (0 ≤ x ∧ x ≤ 15) && (decide ((nodeOf name).1 = 1) && decide (0 ≤ y ∧ y ≤ 1000000000)))) := hid (by unfold refB; rw [pname_node])
  have HT := hid hT
  obtain ⟨W0, hW0⟩ : ∃ W0, W0 = w.alloc (.cells #[.int .i64 x, .string name, .int .i64 y] 113) := ⟨_, rfl⟩
  have hb0 : Below w.heap.size w W0 := by rw [hW0]; exact (Below.refl _ _).alloc (Nat.le_refl _) _
  have HB0 := hid hb0
  have HV0 : Hid (W0.heap[w.heap.size]? = some (.cells #[.int .i64 x, .string name, .int .i64 y] 113)) := hid (by rw [hW0]; exact heap_alloc_new _ _)
  have hz0 : w.heap.size < W0.heap.size := by rw [hW0]; simp
  have HW0 := hid hW0
  have HP0 := hid (Num.tab_stays hb0 hP)
  have CL := hid (fun W => layer_calls x W)
  have CK := hid (fun W hT hG => kind_impl name W hT hG)
  generalize refB ⟨x, name, y⟩ = r at *
  generalize (nodeOf name).1 = kk at *
  clear hW0 hT hP hb0
  by_cases h3 : 0 ≤ y ∧ y ≤ 1000000000
  · have h3' := h3
    obtain ⟨k, rfl⟩ := Int.eq_ofNat_of_zero_le h3.1
    have hk : k ≤ 1000000000 := by omega
    rw [decide_eq_true h3', Bool.and_true] at HR
    have CN := hid (fun (W : World) (hp : Lib.TabIs Tryd.prog W "internal/strconv.uint64pow10" .u64 Lib.pow10Tab) => Num.implNumber_yes k hk W hp)
    generalize (⟨(Num.nameOf k).toArray⟩ : ByteArray) = nm at *
    obtain ⟨k0, k1, k2⟩ := three_refs HV0.out
    clear h3 h3'
    cases h1 : decide (0 ≤ x ∧ x ≤ 15) with
    | false =>
      rw [h1] at HR CL
      clear h1
      go_enter Tryd.func164, Tryd.ntmps164
      go_wp2_with (go_at_call 116; rw [← HW0.out]; refine (CN.out _ HP0.out).mono ?_; rintro e w1 ⟨rfl, hb1⟩; refine Hid.out ?_)
      refine hid ?_
      have HB1 := hid (HB0.out.trans (hb1.mono HB0.out.size))
      have HV1 := hid ((hb1.block _ hz0).trans HV0.out)
      have T1 := hid (tab_on HT.out hG HB1.out)
      have g1 := Nat.lt_of_lt_of_le hG HB1.out.size
      clear hb1 k0 k1 k2
      obtain ⟨k0, k1, k2⟩ := three_refs HV1.out
      go_wp2_with (go_at_call 165; refine (CL.out _).mono ?_; rintro e wq ⟨rfl, eq⟩; rw [eq]; clear eq wq; refine Hid.out ?_)
      refine hid ?_
      go_wp2
      go_ret
      exact ⟨by rw [HR.out]; rfl, HB1.out⟩
    | true =>
      rw [h1, Bool.true_and] at HR
      rw [h1] at CL
      clear h1
      by_cases h2 : kk = 1
      · have hb2 : ((kk : Int) == 1) = true := by rw [h2]; rfl
        rw [decide_eq_true h2] at HR
        clear h2
        go_enter Tryd.func164, Tryd.ntmps164
        go_wp2_with (go_at_call 116; rw [← HW0.out]; refine (CN.out _ HP0.out).mono ?_; rintro e w1 ⟨rfl, hb1⟩; refine Hid.out ?_)
        refine hid ?_
        have HB1 := hid (HB0.out.trans (hb1.mono HB0.out.size))
        have HV1 := hid ((hb1.block _ hz0).trans HV0.out)
        have T1 := hid (tab_on HT.out hG HB1.out)
        have g1 := Nat.lt_of_lt_of_le hG HB1.out.size
        clear hb1 k0 k1 k2
        obtain ⟨k0, k1, k2⟩ := three_refs HV1.out
        go_wp2_with (go_at_call 165; refine (CL.out _).mono ?_; rintro e wq ⟨rfl, eq⟩; rw [eq]; clear eq wq; refine Hid.out ?_)
        refine hid ?_
        go_wp2_with (go_at_call 145; refine (CK.out _ T1.out g1).mono ?_; rintro e w5 ⟨rfl, hb5⟩; refine Hid.out ?_)
        refine hid ?_
        have HB5 := hid (HB1.out.trans (hb5.mono HB1.out.size))
        clear hb5
        go_wp2
        go_ret
        exact ⟨by rw [HR.out]; rfl, HB5.out⟩
      · have hb2 : ((kk : Int) == 1) = false := by rw [beq_eq_false_iff_ne]; omega
        rw [decide_eq_false h2] at HR
        clear h2
        go_enter Tryd.func164, Tryd.ntmps164
        go_wp2_with (go_at_call 116; rw [← HW0.out]; refine (CN.out _ HP0.out).mono ?_; rintro e w1 ⟨rfl, hb1⟩; refine Hid.out ?_)
        refine hid ?_
        have HB1 := hid (HB0.out.trans (hb1.mono HB0.out.size))
        have HV1 := hid ((hb1.block _ hz0).trans HV0.out)
        have T1 := hid (tab_on HT.out hG HB1.out)
        have g1 := Nat.lt_of_lt_of_le hG HB1.out.size
        clear hb1 k0 k1 k2
        obtain ⟨k0, k1, k2⟩ := three_refs HV1.out
        go_wp2_with (go_at_call 165; refine (CL.out _).mono ?_; rintro e wq ⟨rfl, eq⟩; rw [eq]; clear eq wq; refine Hid.out ?_)
        refine hid ?_
        go_wp2_with (go_at_call 145; refine (CK.out _ T1.out g1).mono ?_; rintro e w5 ⟨rfl, hb5⟩; refine Hid.out ?_)
        refine hid ?_
        have HB5 := hid (HB1.out.trans (hb5.mono HB1.out.size))
        clear hb5
        go_wp2
        go_ret
        exact ⟨by rw [HR.out]; rfl, HB5.out⟩
  · have CN := hid (fun (W : World) => Num.implNumber_no y h3 W)
    rw [decide_eq_false h3, Bool.and_false, Bool.and_false] at HR
    obtain ⟨k0, k1, k2⟩ := three_refs HV0.out
    clear h3
    go_enter Tryd.func164, Tryd.ntmps164
    go_wp2_with (go_at_call 116; rw [← HW0.out]; refine (CN.out _).mono ?_; rintro e w1 ⟨rfl, e1⟩; rw [e1]; clear e1 w1; refine Hid.out ?_)
    refine hid ?_
    go_wp2
    go_ret
    exact ⟨by rw [HR.out]; rfl, HB0.out⟩

/-- The key of a row. -/
theorem key_calls (x : Int) (name : ByteArray) (y : Int) (w : World) :
    Calls Tryd.prog 146 #[.agg #[.int .i64 x, .string name, .int .i64 y]] w fun e w' => e = .returned (.agg #[.int .i64 x, .string name]) ∧ Below w.heap.size w w' := by
  go_enter Tryd.func146, Tryd.ntmps146
  go_wp2
  refine bodyPost_ret (v := .agg #[.int .i64 x, .string name]) (by simp [results, Tryd.results146, go_sem]) rfl ⟨rfl, ?_⟩
  first
    | exact ((Below.refl _ _).alloc (Nat.le_refl _) _).alloc (by simp) _
    | exact ((((Below.refl _ _).alloc (Nat.le_refl _) _).alloc (by simp) _).setCell (by simp) _).setCell (by simp) _

set_option maxRecDepth 20000 in
set_option maxHeartbeats 4000000 in
theorem rising_impl (ps : List (List UInt8)) (hm : ps.length ≤ 1048576) (most : Nat) (hmost : most ≤ 1048576) (b : Value) (w : World) (hb : TextsAt w b ps) (hT : Tab w) (hG : 0 < w.heap.size) :
    Calls Tryd.prog 131 #[b, .int .i64 most] w fun e w' => e = .returned (.bool (decide (ps.length ≤ most) && risB ps ps.length)) ∧ Below w.heap.size w w' := by
  have HE := hid hb
  have HT := hid (fun W (hb : Below w.heap.size w W) => tab_on hT hG hb)
  have HGG := hid (fun W (hb : Below w.heap.size w W) => Nat.lt_of_lt_of_le hG hb.size)
  obtain ⟨q, d, rfl, hrest⟩ := hb
  clear hrest hT hG
  by_cases h3 : ps.length ≤ most
  · have d3 : ¬ (ps.length : Int) > (most : Int) := by omega
    rw [decide_eq_true h3, Bool.true_and]
    generalize hr : risB ps ps.length = r
    have HR := hid hr
    clear h3 hr
    go_enter Tryd.func131, Tryd.ntmps131
    go_wp2
    go_loopw [13] (fun iv wr => ∃ i : Nat, i ≤ ps.length ∧ iv = .int .i64 i ∧ Below w.heap.size w wr ∧ risB ps i = true) (fun iv _ => ps.length - (RowKit.intOf iv).toNat)
    case atStart => exact ⟨0, Nat.zero_le _, rfl, Below.refl _ _, rfl⟩
    case round =>
      obtain ⟨i, hi, rfl, hbel, hall⟩ := hrel
      have HB := hid hbel
      have HALL := hid hall
      by_cases hlt : i < ps.length
      · have hne : ps ≠ [] := fun h => by rw [h] at hlt; cases hlt
        obtain ⟨q', d', hv, hq⟩ := HE.out
        obtain ⟨rfl, rfl⟩ : q = q' ∧ d = d' := by injection hv with h1 h2 h3; exact ⟨h1, by omega⟩
        obtain ⟨g, rfl, hk⟩ := hq hne
        have hkr := hk.on hbel
        have HKR := hid hkr
        have hgw := hkr.1
        have hc1 := hkr.2 i hlt
        rw [show (⟨ps[i].toArray⟩ : ByteArray) = bytesOf ps[i] from rfl] at hc1
        have b1 : (0 : Int) ≤ (i : Int) := by omega
        have b2 : (i : Int) < (ps.length : Int) := by omega
        have KC := hid (fun W hT hG => kind_impl (bytesOf ps[i]) W hT hG)
        have HGD : Hid (risGood ps i = (decide ((nodeOf (bytesOf ps[i])).1 ≠ 0) && decide (0 < i → ps.getD (i - 1) [] < ps[i]))) := hid (by unfold risGood; rw [txt_at hlt])
        clear hv hq hk hkr hbel hall
        generalize ps[i] = x at *
        generalize (nodeOf (bytesOf x)).1 = kk at *
        by_cases h0 : kk = 0
        · have hb0 : ((kk : Int) == 0) = true := by rw [h0]; rfl
          have HGB : Hid (risGood ps i = false) := hid (by rw [HGD.out, decide_eq_false (fun h => h h0)]; rfl)
          clear h0 HGD HKR
          generalize bytesOf x = X at *
          go_wp2_with (go_at_call 145; refine (KC.out _ (HT.out _ HB.out) (HGG.out _ HB.out)).mono ?_; rintro e w5 ⟨rfl, hb5⟩; refine Hid.out ?_)
          refine hid ?_
          have HB5 := hid (HB.out.trans (hb5.mono HB.out.size))
          clear hb5
          go_wp2
          go_ret
          exact ⟨by rw [← HR.out, show risB ps ps.length = false from allr_no HGB.out hlt]; rfl, HB5.out⟩
        · have hb0 : ((kk : Int) == 0) = false := by rw [beq_eq_false_iff_ne]; omega
          rw [decide_eq_true h0, Bool.true_and] at HGD
          clear h0
          by_cases hi0 : i = 0
          · have hz1 : ¬ (0 : Int) < (i : Int) := by omega
            have hz2 : (i : Int) ≤ 0 := by omega
            have HGB : Hid (risGood ps i = true) := hid (by rw [HGD.out]; exact decide_eq_true (fun h => absurd hi0 (by omega)))
            clear HGD HKR hi0
            generalize bytesOf x = X at *
            go_wp2_with (go_at_call 145; refine (KC.out _ (HT.out _ HB.out) (HGG.out _ HB.out)).mono ?_; rintro e w5 ⟨rfl, hb5⟩; refine Hid.out ?_)
            refine hid ?_
            have HB5 := hid (HB.out.trans (hb5.mono HB.out.size))
            clear hb5
            go_wp2
            go_roundw
            case rel => exact ⟨i + 1, by omega, by go_num, HB5.out, by unfold risB; rw [allr_succ]; show (risB ps i && risGood ps i) = true; rw [HALL.out, HGB.out]; rfl⟩
            case measure => simp [RowKit.intOf]; omega
          · obtain ⟨j, rfl⟩ : ∃ j, i = j + 1 := ⟨i - 1, by omega⟩
            clear hi0
            have hjl : j < ps.length := by omega
            have hc0 := HKR.out.2 j hjl
            rw [show (⟨ps[j].toArray⟩ : ByteArray) = bytesOf ps[j] from rfl] at hc0
            have HGD2 : Hid (risGood ps (j + 1) = decide (0 < j + 1 → ps[j] < x)) := hid (by rw [HGD.out, Nat.add_sub_cancel, txt_at hjl])
            have b3 : (0 : Int) ≤ (j : Int) := by omega
            have b4 : (j : Int) < (ps.length : Int) := by omega
            have b5 : (0 : Int) ≤ (j : Int) + 1 := by omega
            have b6 : (j : Int) + 1 < (ps.length : Int) := by omega
            have b7 : (0 : Int) < (j : Int) + 1 := by omega
            clear HGD HKR
            generalize ps[j] = y at *
            by_cases hyx : y < x
            · have hle := less_yes hyx
              have HGB : Hid (risGood ps (j + 1) = true) := hid (by rw [HGD2.out]; exact decide_eq_true (fun _ => hyx))
              clear HGD2 hyx
              generalize bytesOf x = X at *
              generalize bytesOf y = Y at *
              go_wp2_with (go_at_call 145; refine (KC.out _ (HT.out _ HB.out) (HGG.out _ HB.out)).mono ?_; rintro e w5 ⟨rfl, hb5⟩; refine Hid.out ?_)
              refine hid ?_
              have HB5 := hid (HB.out.trans (hb5.mono HB.out.size))
              have r0 := (hb5.cell (p := ⟨g, j, none⟩) hgw).trans hc0
              clear hb5
              go_wp2
              go_roundw
              case rel => exact ⟨j + 1 + 1, by omega, by go_num, HB5.out, by unfold risB; rw [allr_succ]; show (risB ps (j + 1) && risGood ps (j + 1)) = true; rw [HALL.out, HGB.out]; rfl⟩
              case measure => simp [RowKit.intOf]; omega
            · have hle := less_no hyx
              have HGB : Hid (risGood ps (j + 1) = false) := hid (by rw [HGD2.out]; exact decide_eq_false (fun h => hyx (h (Nat.succ_pos j))))
              clear HGD2 hyx
              generalize bytesOf x = X at *
              generalize bytesOf y = Y at *
              go_wp2_with (go_at_call 145; refine (KC.out _ (HT.out _ HB.out) (HGG.out _ HB.out)).mono ?_; rintro e w5 ⟨rfl, hb5⟩; refine Hid.out ?_)
              refine hid ?_
              have HB5 := hid (HB.out.trans (hb5.mono HB.out.size))
              have r0 := (hb5.cell (p := ⟨g, j, none⟩) hgw).trans hc0
              clear hb5
              go_wp2
              go_ret
              exact ⟨by rw [← HR.out, show risB ps ps.length = false from allr_no HGB.out hlt]; rfl, HB5.out⟩
      · have hie : i = ps.length := by omega
        subst hie
        rw [HALL.out] at HR
        go_wp2
        go_ret
        exact ⟨by rw [← HR.out]; rfl, HB.out⟩
  · have d3 : (ps.length : Int) > (most : Int) := by omega
    rw [decide_eq_false h3]
    clear h3
    go_enter Tryd.func131, Tryd.ntmps131
    go_wp2
    go_ret
    exact ⟨rfl, Below.refl _ _⟩
end Go.Proofs.YtponjghppnpnhaaDoor
