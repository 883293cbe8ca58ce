/- Laid together: RisingPlain, PolPlain, RelPlain, PolImpl, RelImpl. -/
import Derived.Test.YtjaaplcgphlccaaGreatDoorPackMk
import Derived.Lib.SlicesCompact
import Derived.Test.YtjaaplcgphlccaaGreatDoorPackNum
import Derived.Test.YtjaaplcgphlccaaGreatDoorRowRef
import Derived.Sort.Walk0
import Derived.Maps.OwnSet
import Derived.Maps.OwnOps
import Derived.Maps.RangeWalk
import Derived.Maps.Ext

namespace Go.Proofs.YtjaaplcgphlccaaGreatDoor

def Rising (l : List (List UInt8)) : Prop := l.Pairwise (fun a b => a < b)

theorem rising_unique : ∀ {a b : List (List UInt8)}, Rising a → Rising b → (∀ x, x ∈ a ↔ x ∈ b) → a = b
  | [], [], _, _, _ => rfl
  | [], y :: _, _, _, h => by have := (h y).2 (by simp); cases this
  | x :: _, [], _, _, h => by have := (h x).1 (by simp); cases this
  | x :: r, y :: q, ha, hb, h => by
    obtain ⟨ha1, ha2⟩ := List.pairwise_cons.1 ha
    obtain ⟨hb1, hb2⟩ := List.pairwise_cons.1 hb
    have hxy : x = y := by
      rcases List.mem_cons.1 ((h x).1 (by simp)) with e | hx
      · exact e
      · rcases List.mem_cons.1 ((h y).2 (by simp)) with e | hy
        · exact e.symm
        · exact absurd (List.lt_trans (hb1 x hx) (ha1 y hy)) (List.lt_irrefl y)
    subst hxy
    have hrq : ∀ z, z ∈ r ↔ z ∈ q := by
      intro z
      constructor
      · intro hz
        rcases List.mem_cons.1 ((h z).1 (List.mem_cons_of_mem _ hz)) with e | hz'
        · subst e; exact absurd (ha1 _ hz) (List.lt_irrefl _)
        · exact hz'
      · intro hz
        rcases List.mem_cons.1 ((h z).2 (List.mem_cons_of_mem _ hz)) with e | hz'
        · subst e; exact absurd (hb1 _ hz) (List.lt_irrefl _)
        · exact hz'
    rw [rising_unique ha2 hb2 hrq]

/-- A text put in at its place. -/
theorem rising_put {o : List (List UInt8)} {x : List UInt8} {k : Nat} (ho : Rising o) (h1 : ∀ z ∈ o.drop k, x < z) (h2 : ∀ z ∈ o.take k, z < x) : Rising (o.take k ++ x :: o.drop k) := by
  unfold Rising at ho ⊢
  rw [← List.take_append_drop k o, List.pairwise_append] at ho
  rw [List.pairwise_append]
  refine ⟨ho.1, ?_, ?_⟩
  · rw [List.pairwise_cons]
    exact ⟨h1, ho.2.1⟩
  · intro a ha b hb
    rcases List.mem_cons.1 hb with rfl | hb
    · exact h2 a ha
    · exact ho.2.2 a ha b hb

/-- All ahead of a place are below, when the one ahead of it is. -/
theorem rising_below {o : List (List UInt8)} {x : List UInt8} {k : Nat} (ho : Rising o) (hk : k ≤ o.length) (h : ∀ (h0 : 0 < k), o[k - 1]'(by omega) < x) : ∀ z ∈ o.take k, z < x := by
  intro z hz
  obtain ⟨j, hj, rfl⟩ := List.getElem_of_mem hz
  rw [List.length_take] at hj
  rw [List.getElem_take]
  by_cases hjk : j = k - 1
  · subst hjk
    exact h (by omega)
  · have hp := List.pairwise_iff_getElem.1 ho j (k - 1) (by omega) (by omega) (by omega)
    exact List.lt_trans hp (h (by omega))

theorem compactUpTo_rising (zs : List (List UInt8)) (hs : zs.Pairwise (fun a b => a ≤ b)) : ∀ m, m ≤ zs.length →
    Rising (Lib.compactUpTo zs.toArray m) ∧ (∀ x, x ∈ Lib.compactUpTo zs.toArray m ↔ x ∈ zs.take m) ∧ ∀ x ∈ Lib.compactUpTo zs.toArray m, ∀ (_ : 0 < m) (hm : m - 1 < zs.length), x ≤ zs[m - 1] := by
  intro m
  induction m with
  | zero =>
    intro _
    refine ⟨?_, ?_, ?_⟩
    · simp [Rising, Lib.compactUpTo]
    · intro x; simp [Lib.compactUpTo]
    · intro x hx; simp [Lib.compactUpTo] at hx
  | succ m ih =>
    intro hm
    obtain ⟨h1, h2, h3⟩ := ih (by omega)
    have hget : ∀ j, j < zs.length → zs.toArray[j]! = zs[j]! := fun j hj => by simp
    have hz : zs.toArray[m]! = zs[m] := by simp [getElem!_pos, show m < zs.length by omega]
    have hmem : ∀ x, x ∈ zs.take (m + 1) ↔ x ∈ zs.take m ∨ x = zs[m] := fun x => by
      rw [List.take_succ_eq_append_getElem (by omega), List.mem_append, List.mem_singleton]
    rw [Lib.compactUpTo_succ]
    by_cases hk : Lib.keeps zs.toArray m = true
    · rw [if_pos hk, hz]
      have hbelow : ∀ x ∈ Lib.compactUpTo zs.toArray m, x < zs[m] := by
        intro x hx
        by_cases h0 : m = 0
        · subst h0; simp [Lib.compactUpTo] at hx
        · have hle := h3 x hx (by omega) (by omega)
          have hne : zs[m - 1] ≠ zs[m] := by
            intro e
            simp only [Lib.keeps, decide_eq_true_eq] at hk
            rcases hk with hk | hk
            · exact h0 hk
            · apply hk
              rw [hz]
              simp [getElem!_pos, show m - 1 < zs.length by omega, e]
          have hlt : zs[m - 1] < zs[m] := by
            have hle2 := List.pairwise_iff_getElem.1 hs (m - 1) m (by omega) (by omega) (by omega)
            rcases Classical.em (zs[m - 1] < zs[m]) with h | h
            · exact h
            · exact absurd (List.le_antisymm hle2 (List.not_lt.1 h)) hne
          rcases Classical.em (x < zs[m]) with h | h
          · exact h
          · exfalso
            have h5 : zs[m] ≤ x := List.not_lt.1 h
            have h6 := List.le_trans h5 hle
            exact (List.not_lt.2 h6) hlt
      refine ⟨?_, ?_, ?_⟩
      · unfold Rising
        rw [List.pairwise_append]
        refine ⟨h1, by simp, ?_⟩
        intro a ha b hb
        have : b = zs[m] := by simpa using hb
        subst this
        exact hbelow a ha
      · intro x
        rw [List.mem_append, h2, List.mem_singleton, hmem]
      · intro x hx _ _
        simp only [Nat.add_sub_cancel]
        rcases List.mem_append.1 hx with hx | hx
        · exact List.le_of_lt (hbelow x hx)
        · have : x = zs[m] := by simpa using hx
          subst this
          exact List.le_refl _
    · rw [if_neg hk, List.append_nil]
      have hk' : ¬ (m = 0 ∨ zs.toArray[m]! ≠ zs.toArray[m - 1]!) := by
        intro h
        apply hk
        simp only [Lib.keeps, decide_eq_true_eq]
        exact h
      have h0 : 0 < m := by
        rcases Nat.eq_zero_or_pos m with h | h
        · exact absurd (Or.inl h) hk'
        · exact h
      have he : zs[m] = zs[m - 1] := by
        rcases Classical.em (zs[m] = zs[m - 1]) with h | h
        · exact h
        · exfalso
          apply hk'
          refine Or.inr ?_
          rw [hz]
          simp [getElem!_pos, show m - 1 < zs.length by omega]
          exact h
      refine ⟨h1, ?_, ?_⟩
      · intro x
        rw [h2, hmem]
        constructor
        · exact Or.inl
        · rintro (h | h)
          · exact h
          · rw [h, he]
            exact List.mem_take_iff_getElem.2 ⟨m - 1, by omega, rfl⟩
      · intro x hx _ _
        simp only [Nat.add_sub_cancel]
        rw [he]
        exact h3 x hx h0 (by omega)

/-- A sorted list of which repeats are struck is rising, and has what it had. -/
theorem compact_rising (zs : List (List UInt8)) (hs : zs.Pairwise (fun a b => a ≤ b)) : Rising (Lib.compact zs) ∧ ∀ x, x ∈ Lib.compact zs ↔ x ∈ zs := by
  obtain ⟨h1, h2, _⟩ := compactUpTo_rising zs hs zs.length (Nat.le_refl _)
  refine ⟨h1, fun x => ?_⟩
  have := h2 x
  rw [List.take_of_length_le (Nat.le_refl _)] at this
  exact this

theorem sorted_le (ss : List (List UInt8)) : (ss.mergeSort fun x y => decide (x ≤ y)).Pairwise (fun a b => a ≤ b) := by
  have h := List.pairwise_mergeSort (le := fun (x y : List UInt8) => decide (x ≤ y)) (fun a b c h1 h2 => by simp only [decide_eq_true_eq] at *; exact List.le_trans h1 h2) (fun a b => by simp only [Bool.or_eq_true, decide_eq_true_eq]; exact List.le_total a b) ss
  exact h.imp (fun h => by simpa using h)

/-- Sorted, and repeats struck. -/
theorem sort_compact (ss : List (List UInt8)) : Rising (Lib.compact (ss.mergeSort fun x y => decide (x ≤ y))) ∧ ∀ x, x ∈ Lib.compact (ss.mergeSort fun x y => decide (x ≤ y)) ↔ x ∈ ss := by
  obtain ⟨h1, h2⟩ := compact_rising _ (sorted_le ss)
  refine ⟨h1, fun x => ?_⟩
  rw [h2]
  exact (List.mergeSort_perm ss _).mem_iff
end Go.Proofs.YtjaaplcgphlccaaGreatDoor

namespace Go.Proofs.YtjaaplcgphlccaaGreatDoor
open Go.RowKit
open Go.Lib (hid)

def refB (e : RefD) : Bool := decide (0 ≤ e.x0 ∧ e.x0 ≤ 15) && (nameB e.x1.data.toList && decide (0 ≤ e.x2 ∧ e.x2 ≤ 1000000000))

def sameK (a b : RefD) : Prop := a.x0 = b.x0 ∧ a.x1.data.toList = b.x1.data.toList

instance (a b : RefD) : Decidable (sameK a b) := by unfold sameK; infer_instance

/-- None of the rows ahead has the key of the one at a place. -/
def apartB (es : List RefD) (i n : Nat) : Bool := (List.range n).all fun k => decide (¬ sameK (es.getD k zRef) (es.getD i zRef))

def rowGood (es : List RefD) (i : Nat) : Bool := refB (es.getD i zRef) && apartB es i i

def rowsB (es : List RefD) (n : Nat) : Bool := (List.range n).all (rowGood es)

theorem allr_succ (f : Nat → Bool) (n : Nat) : (List.range (n + 1)).all f = ((List.range n).all f && f n) := by
  rw [List.range_succ, List.all_append]
  simp

theorem allr_no {f : Nat → Bool} {n m : Nat} (h : f n = false) (hm : n < m) : (List.range m).all f = false := by
  rw [Bool.eq_false_iff]
  intro ht
  rw [List.all_eq_true] at ht
  have := ht n (List.mem_range.2 hm)
  rw [h] at this
  cases this

theorem ref_at {es : List RefD} {i : Nat} (h : i < es.length) : es.getD i zRef = es[i] := by simp [List.getD, h]

/-- Is the text at a place a term, and behind the one ahead of it. -/
def risGood (ps : List (List UInt8)) (i : Nat) : Bool := decide ((nodeOf (bytesOf (ps.getD i []))).1 ≠ 0) && decide (0 < i → ps.getD (i - 1) [] < ps.getD i [])

def risB (ps : List (List UInt8)) (n : Nat) : Bool := (List.range n).all (risGood ps)

theorem txt_at {ps : List (List UInt8)} {i : Nat} (h : i < ps.length) : ps.getD i [] = ps[i] := by simp [List.getD, h]

/-- Is it a right Policy. -/
def polB (num : Int) (es : List RefD) (ps : List (List UInt8)) : Bool :=
  decide (0 ≤ num ∧ num ≤ 1000000000) && (decide (es.length ≤ 60) && (decide (ps.length ≤ 60) && (rowsB es es.length && risB ps ps.length)))

/-- Texts held against each other, as the walk asks it. -/
theorem leq_yes {x y : List UInt8} (h : ¬ y < x) : (Op.bytesLess (bytesOf x).toList (bytesOf y).toList || (bytesOf x).toList == (bytesOf y).toList) = true := by
  rw [ByteArray.toList_eq, ByteArray.toList_eq, bytesLess_eq, Bool.or_eq_true]
  show decide (x < y) = true ∨ (x == y) = true
  by_cases he : x = y
  · exact Or.inr (by rw [he]; simp)
  · refine Or.inl (decide_eq_true ?_)
    have hle : x ≤ y := List.not_lt.1 h
    rcases Classical.em (x < y) with h2 | h2
    · exact h2
    · exact absurd (List.le_antisymm hle (List.not_lt.1 h2)) he

theorem leq_no {x y : List UInt8} (h : y < x) : (Op.bytesLess (bytesOf x).toList (bytesOf y).toList || (bytesOf x).toList == (bytesOf y).toList) = false := by
  rw [ByteArray.toList_eq, ByteArray.toList_eq, bytesLess_eq, Bool.or_eq_false_iff]
  show decide (x < y) = false ∧ (x == y) = false
  refine ⟨decide_eq_false (fun e => List.lt_irrefl _ (List.lt_trans h e)), ?_⟩
  rw [beq_eq_false_iff_ne]
  intro e
  rw [e] at h
  exact List.lt_irrefl _ h

theorem three_refs {W : World} {b : Nat} {x0 x1 x2 : Value} {t : TypeId} (h : W.heap[b]? = some (.cells #[x0, x1, x2] t)) :
    W.cell? ⟨b, 0, none⟩ = some x0 ∧ W.cell? ⟨b, 1, none⟩ = some x1 ∧ W.cell? ⟨b, 2, none⟩ = some x2 :=
  ⟨(cell_of_row W b 0 _ _ _ h).trans rfl, (cell_of_row W b 1 _ _ _ h).trans rfl, (cell_of_row W b 2 _ _ _ h).trans rfl⟩

end Go.Proofs.YtjaaplcgphlccaaGreatDoor

namespace Go.Proofs.YtjaaplcgphlccaaGreatDoor
open Go.RowKit
open Go.Lib (hid)

/-- Terms that rise, at most so many. -/
def someB (ps : List (List UInt8)) (most : Nat) : Bool := decide (ps.length ≤ most) && risB ps ps.length

def pubG (ps : List (List UInt8)) (i : Nat) : Bool := decide ((nodeOf (bytesOf (ps.getD i []))).1 = 6)
def pubsB (ps : List (List UInt8)) (n : Nat) : Bool := (List.range n).all (pubG ps)

def relB (is ask ts : List (List UInt8)) : Bool := (someB is 8 && (someB ask 30 && someB ts 200)) && pubsB is is.length

theorem pubs_iff {ps : List (List UInt8)} : pubsB ps ps.length = true ↔ ∀ x ∈ ps, (nodeOf (bytesOf x)).1 = 6 := by
  unfold pubsB
  rw [List.all_eq_true]
  constructor
  · intro h x hx
    obtain ⟨i, hi, rfl⟩ := List.mem_iff_getElem.1 hx
    have h2 := h i (List.mem_range.2 hi)
    unfold pubG at h2
    rw [txt_at hi] at h2
    exact of_decide_eq_true h2
  · intro h i hi
    have hl := List.mem_range.1 hi
    unfold pubG
    rw [txt_at hl]
    exact decide_eq_true (h _ (List.getElem_mem hl))
end Go.Proofs.YtjaaplcgphlccaaGreatDoor

namespace Go.Proofs.YtjaaplcgphlccaaGreatDoor
open Go.RowKit
open Go.Lib (hid)

theorem pname_node (x : ByteArray) : nameB x.data.toList = decide ((nodeOf x).1 = 1) := name_node x

theorem less_yes {x y : List UInt8} (h : x < y) : Op.bytesLess (bytesOf x).toList (bytesOf y).toList = true := by
  rw [ByteArray.toList_eq, ByteArray.toList_eq, bytesLess_eq]
  exact decide_eq_true h

theorem less_no {x y : List UInt8} (h : ¬ x < y) : Op.bytesLess (bytesOf x).toList (bytesOf y).toList = false := by
  rw [ByteArray.toList_eq, ByteArray.toList_eq, bytesLess_eq]
  exact decide_eq_false h

set_option maxRecDepth 20000 in
set_option maxHeartbeats 4000000 in
theorem rising_impl (ps : List (List UInt8)) (hm : ps.length ≤ 1048576) (most : Nat) (hmost : most ≤ 1048576) (b : Value) (w : World) (hb : TextsAt w b ps) (hT : Tab w) (hG : 0 < w.heap.size) :
    Calls Tryz.prog 75 #[b, .int .i64 most] w fun e w' => e = .returned (.bool (decide (ps.length ≤ most) && risB ps ps.length)) ∧ Below w.heap.size w w' := by
  have HE := hid hb
  have HT := hid (fun W (hb : Below w.heap.size w W) => tab_on hT hG hb)
  have HGG := hid (fun W (hb : Below w.heap.size w W) => Nat.lt_of_lt_of_le hG hb.size)
  obtain ⟨q, d, rfl, hrest⟩ := hb
  clear hrest hT hG
  by_cases h3 : ps.length ≤ most
  · have d3 : ¬ (ps.length : Int) > (most : Int) := by omega
    rw [decide_eq_true h3, Bool.true_and]
    generalize hr : risB ps ps.length = r
    have HR := hid hr
    clear h3 hr
    go_enter Tryz.func75, Tryz.ntmps75
    go_wp2
    go_loopw [13] (fun iv wr => ∃ i : Nat, i ≤ ps.length ∧ iv = .int .i64 i ∧ Below w.heap.size w wr ∧ risB ps i = true) (fun iv _ => ps.length - (RowKit.intOf iv).toNat)
    case atStart => exact ⟨0, Nat.zero_le _, rfl, Below.refl _ _, rfl⟩
    case round =>
      obtain ⟨i, hi, rfl, hbel, hall⟩ := hrel
      have HB := hid hbel
      have HALL := hid hall
      by_cases hlt : i < ps.length
      · have hne : ps ≠ [] := fun h => by rw [h] at hlt; cases hlt
        obtain ⟨q', d', hv, hq⟩ := HE.out
        obtain ⟨rfl, rfl⟩ : q = q' ∧ d = d' := by injection hv with h1 h2 h3; exact ⟨h1, by omega⟩
        obtain ⟨g, rfl, hk⟩ := hq hne
        have hkr := hk.on hbel
        have HKR := hid hkr
        have hgw := hkr.1
        have hc1 := hkr.2 i hlt
        rw [show (⟨ps[i].toArray⟩ : ByteArray) = bytesOf ps[i] from rfl] at hc1
        have b1 : (0 : Int) ≤ (i : Int) := by omega
        have b2 : (i : Int) < (ps.length : Int) := by omega
        have KC := hid (fun W hT hG => kind_impl (bytesOf ps[i]) W hT hG)
        have HGD : Hid (risGood ps i = (decide ((nodeOf (bytesOf ps[i])).1 ≠ 0) && decide (0 < i → ps.getD (i - 1) [] < ps[i]))) := hid (by unfold risGood; rw [txt_at hlt])
        clear hv hq hk hkr hbel hall
        generalize ps[i] = x at *
        generalize (nodeOf (bytesOf x)).1 = kk at *
        by_cases h0 : kk = 0
        · have hb0 : ((kk : Int) == 0) = true := by rw [h0]; rfl
          have HGB : Hid (risGood ps i = false) := hid (by rw [HGD.out, decide_eq_false (fun h => h h0)]; rfl)
          clear h0 HGD HKR
          generalize bytesOf x = X at *
          go_wp2_with (go_at_call 63; refine (KC.out _ (HT.out _ HB.out) (HGG.out _ HB.out)).mono ?_; rintro e w5 ⟨rfl, hb5⟩; refine Hid.out ?_)
          refine hid ?_
          have HB5 := hid (HB.out.trans (hb5.mono HB.out.size))
          clear hb5
          go_wp2
          go_ret
          exact ⟨by rw [← HR.out, show risB ps ps.length = false from allr_no HGB.out hlt]; rfl, HB5.out⟩
        · have hb0 : ((kk : Int) == 0) = false := by rw [beq_eq_false_iff_ne]; omega
          rw [decide_eq_true h0, Bool.true_and] at HGD
          clear h0
          by_cases hi0 : i = 0
          · have hz1 : ¬ (0 : Int) < (i : Int) := by omega
            have hz2 : (i : Int) ≤ 0 := by omega
            have HGB : Hid (risGood ps i = true) := hid (by rw [HGD.out]; exact decide_eq_true (fun h => absurd hi0 (by omega)))
            clear HGD HKR hi0
            generalize bytesOf x = X at *
            go_wp2_with (go_at_call 63; refine (KC.out _ (HT.out _ HB.out) (HGG.out _ HB.out)).mono ?_; rintro e w5 ⟨rfl, hb5⟩; refine Hid.out ?_)
            refine hid ?_
            have HB5 := hid (HB.out.trans (hb5.mono HB.out.size))
            clear hb5
            go_wp2
            go_roundw
            case rel => exact ⟨i + 1, by omega, by go_num, HB5.out, by unfold risB; rw [allr_succ]; show (risB ps i && risGood ps i) = true; rw [HALL.out, HGB.out]; rfl⟩
            case measure => simp [RowKit.intOf]; omega
          · obtain ⟨j, rfl⟩ : ∃ j, i = j + 1 := ⟨i - 1, by omega⟩
            clear hi0
            have hjl : j < ps.length := by omega
            have hc0 := HKR.out.2 j hjl
            rw [show (⟨ps[j].toArray⟩ : ByteArray) = bytesOf ps[j] from rfl] at hc0
            have HGD2 : Hid (risGood ps (j + 1) = decide (0 < j + 1 → ps[j] < x)) := hid (by rw [HGD.out, Nat.add_sub_cancel, txt_at hjl])
            have b3 : (0 : Int) ≤ (j : Int) := by omega
            have b4 : (j : Int) < (ps.length : Int) := by omega
            have b5 : (0 : Int) ≤ (j : Int) + 1 := by omega
            have b6 : (j : Int) + 1 < (ps.length : Int) := by omega
            have b7 : (0 : Int) < (j : Int) + 1 := by omega
            clear HGD HKR
            generalize ps[j] = y at *
            by_cases hyx : y < x
            · have hle := less_yes hyx
              have HGB : Hid (risGood ps (j + 1) = true) := hid (by rw [HGD2.out]; exact decide_eq_true (fun _ => hyx))
              clear HGD2 hyx
              generalize bytesOf x = X at *
              generalize bytesOf y = Y at *
              go_wp2_with (go_at_call 63; refine (KC.out _ (HT.out _ HB.out) (HGG.out _ HB.out)).mono ?_; rintro e w5 ⟨rfl, hb5⟩; refine Hid.out ?_)
              refine hid ?_
              have HB5 := hid (HB.out.trans (hb5.mono HB.out.size))
              have r0 := (hb5.cell (p := ⟨g, j, none⟩) hgw).trans hc0
              clear hb5
              go_wp2
              go_roundw
              case rel => exact ⟨j + 1 + 1, by omega, by go_num, HB5.out, by unfold risB; rw [allr_succ]; show (risB ps (j + 1) && risGood ps (j + 1)) = true; rw [HALL.out, HGB.out]; rfl⟩
              case measure => simp [RowKit.intOf]; omega
            · have hle := less_no hyx
              have HGB : Hid (risGood ps (j + 1) = false) := hid (by rw [HGD2.out]; exact decide_eq_false (fun h => hyx (h (Nat.succ_pos j))))
              clear HGD2 hyx
              generalize bytesOf x = X at *
              generalize bytesOf y = Y at *
              go_wp2_with (go_at_call 63; refine (KC.out _ (HT.out _ HB.out) (HGG.out _ HB.out)).mono ?_; rintro e w5 ⟨rfl, hb5⟩; refine Hid.out ?_)
              refine hid ?_
              have HB5 := hid (HB.out.trans (hb5.mono HB.out.size))
              have r0 := (hb5.cell (p := ⟨g, j, none⟩) hgw).trans hc0
              clear hb5
              go_wp2
              go_ret
              exact ⟨by rw [← HR.out, show risB ps ps.length = false from allr_no HGB.out hlt]; rfl, HB5.out⟩
      · have hie : i = ps.length := by omega
        subst hie
        rw [HALL.out] at HR
        go_wp2
        go_ret
        exact ⟨by rw [← HR.out]; rfl, HB.out⟩
  · have d3 : (ps.length : Int) > (most : Int) := by omega
    rw [decide_eq_false h3]
    clear h3
    go_enter Tryz.func75, Tryz.ntmps75
    go_wp2
    go_ret
    exact ⟨rfl, Below.refl _ _⟩
end Go.Proofs.YtjaaplcgphlccaaGreatDoor

namespace Go.Proofs.YtjaaplcgphlccaaGreatDoor
open Go.RowKit Go.WideMaps Go.Maps
open Go.Lib (hid)

theorem setKeyed : Keyed Tryz.prog 9 := string_keyed Tryz.underlying9

/-- A set of texts, as a map reads. -/
def setD {H : Type} (ps : List (List UInt8)) : DataW H := setOf (.agg []) (ps.map Lit.string)

theorem set_snoc {H : Type} (ps : List (List UInt8)) (x : List UInt8) : setD (H := H) (ps ++ [x]) = (setD ps).put (.string x) (.agg []) := by
  unfold setD
  rw [List.map_append, List.map_singleton, setOf_snoc]

theorem set_has {H : Type} (ps : List (List UInt8)) (x : List UInt8) : has (setD (H := H) ps) (.string x) = true ↔ x ∈ ps := by
  unfold setD
  rw [has_setOf _ _ _ (fun z hz => by obtain ⟨l, _, rfl⟩ := List.mem_map.1 hz; trivial), List.any_eq_true]
  constructor
  · rintro ⟨z, hz, hs⟩
    obtain ⟨l, hl, rfl⟩ := List.mem_map.1 hz
    have : l = x := by simpa [Lit.sameKey] using hs
    rw [← this]
    exact hl
  · intro h
    exact ⟨.string x, List.mem_map.2 ⟨x, h, rfl⟩, by simp [Lit.sameKey]⟩

theorem set_bytes (s : ByteArray) : bytesOf s.data.toList = s := by
  apply ByteArray.ext
  simp [bytesOf]

theorem key_str {key : Value} {kl : Lit} (h : keyOf Tryz.prog 9 key = some kl) : ∃ x : ByteArray, key = .string x := by
  cases key <;> simp [keyOf, Tryz.underlying9, mapKey] at h
  exact ⟨_, rfl⟩

theorem key_lit {x : ByteArray} {kl : Lit} (h : keyOf Tryz.prog 9 (.string x) = some kl) : kl = .string x.data.toList := by
  simp [keyOf, Tryz.underlying9, mapKey] at h
  exact h.2.symm

theorem unit_inv {H : Type} {v : Value} {y : DataW H × List MemPlace} (h : unitElem v = some y) : ∃ c : Unit, v = (fun _ : Unit => Value.agg #[]) c := ⟨(), (unitElem_inv h).1⟩

set_option maxRecDepth 20000 in
set_option maxHeartbeats 4000000 in
theorem sput_calls {H : Type} (b m : Nat) (D : DataW H) (x : ByteArray) (w : World) (hs : x.size ≤ maxLen) (hown : w.ownsMap Tryz.prog 9 unitElem b m D) (hm : m < 1048576) :
    Calls Tryz.prog 55 #[.map (some b), .string x] w fun e w' => e = .returned (.tuple #[]) ∧ w'.ownsMap Tryz.prog 9 unitElem b (m + 1) (D.put (.string x.data.toList) (.agg [])) ∧ w.grownBy w' (some b) := by
  have HK := hid (keyOf_string_mk (P := Tryz.prog) Tryz.underlying9 hs)
  have HO1 := hid hown
  clear hown hs
  go_enter Tryz.func55, Tryz.ntmps55
  go_wp2_with (first
    | (at_mapUpdate; refine wpList_mapUpdate_own _ rfl _ _ _ 49 rfl 9 90 setKeyed Tryz.underlying49 _ b m _ rfl HO1.out (by unfold maxLen; omega) _ _ _ rfl rfl HK.out _ [] unitElem_mk ?_; intro w2 hown2 hgrow2; refine Hid.out ?_)
    | (fail "no arm"))
  refine hid ?_
  have HO2 := hid hown2
  have HG2 := hid hgrow2
  clear hown2 hgrow2
  go_wp2
  go_end0
  exact ⟨rfl, HO2.out, HG2.out⟩

/-- What readRising answers. -/
def RisPost (H : Type) (ps : List (List UInt8)) (most : Nat) (w : World) (e : Ending) (w' : World) : Prop :=
  Below w.heap.size w w' ∧ ((someB ps most = false ∧ e = .returned (.tuple #[.map none, .bool false])) ∨
    (someB ps most = true ∧ ∃ s, e = .returned (.tuple #[.map (some s), .bool true]) ∧ w.heap.size ≤ s ∧ w'.ownsMap Tryz.prog 9 (unitElem (H := H)) s ps.length (setD ps)))

set_option maxRecDepth 20000 in
set_option maxHeartbeats 4000000 in
theorem rread_calls (H : Type) (ps : List (List UInt8)) (hm : ps.length ≤ 1048576) (hs : ∀ p ∈ ps, p.length ≤ 9223372036854775807) (most : Nat) (hmost : most ≤ 1048575) (b : Value) (w : World) (hb : TextsAt w b ps) (hT : Tab w) (hG : 0 < w.heap.size) :
    Calls Tryz.prog 52 #[b, .int .i64 most] w (RisPost H ps most w) := by
  unfold RisPost
  have hmm := @run_makeMap Tryz.prog
  have HE := hid hb
  have HS := hid hs
  have CR := hid (rising_impl ps hm most (by omega) b w hb hT hG)
  have HSB : Hid (someB ps most = (decide (ps.length ≤ most) && risB ps ps.length)) := hid rfl
  rw [← HSB.out] at CR
  obtain ⟨q, d, rfl, hrest⟩ := hb
  clear hrest hs hT
  cases hr : someB ps most with
  | false =>
    rw [hr] at CR
    go_enter Tryz.func52, Tryz.ntmps52
    go_wp2_with (go_at_call 75; refine CR.out.mono ?_; rintro e w1 ⟨rfl, hb1⟩; refine Hid.out ?_)
    refine hid ?_
    have HB1 := hid hb1
    clear hb1
    go_wp2
    go_ret2
    exact ⟨HB1.out, Or.inl ⟨(by first | trivial | rfl), rfl⟩⟩
  | true =>
    rw [hr] at CR
    have hfew : ps.length ≤ most := by
      have h := HSB.out
      rw [hr] at h
      exact of_decide_eq_true (Bool.and_eq_true_iff.1 h.symm).1
    clear hr HSB
    go_enter Tryz.func52, Tryz.ntmps52
    go_wp2_with (go_at_call 75; refine CR.out.mono ?_; rintro e w1 ⟨rfl, hb1⟩; refine Hid.out ?_)
    refine hid ?_
    have HB1 := hid hb1
    have hz1 := hb1.size
    clear hb1
    go_wp2
    go_loopw [16] (fun iv wr => ∃ i : Nat, i ≤ ps.length ∧ iv = .int .i64 i ∧ Below w.heap.size w wr ∧ Hid (wr.ownsMap Tryz.prog 9 (unitElem (H := H)) w1.heap.size i (setD (ps.take i)))) (fun iv _ => ps.length - (RowKit.intOf iv).toNat)
    case atStart => exact ⟨0, Nat.zero_le _, rfl, HB1.out.alloc hz1 _, hid (World.ownsMap_made _ _ _ _)⟩
    case round =>
      obtain ⟨i, hi, rfl, hbel, HO⟩ := hrel
      have HB := hid hbel
      by_cases hlt : i < ps.length
      · have hne : ps ≠ [] := fun h => by rw [h] at hlt; cases hlt
        obtain ⟨q', d', hv, hp⟩ := HE.out
        obtain ⟨rfl, rfl⟩ : q = q' ∧ d = d' := by injection hv with h1 h2 h3; exact ⟨h1, by omega⟩
        obtain ⟨g, rfl, hg, hc⟩ := hp hne
        clear hv hp
        have b1 : (0 : Int) ≤ (i : Int) := by omega
        have b2 : (i : Int) < (ps.length : Int) := by omega
        have m0 := (hbel.cell (p := ⟨g, i, none⟩) hg).trans (hc i hlt)
        have HTK : Hid (ps.take (i + 1) = ps.take i ++ [ps[i]]) := hid (List.take_succ_eq_append_getElem hlt)
        have hxs := HS.out ps[i] (List.getElem_mem hlt)
        clear hc hbel
        generalize ps[i] = x at *
        rw [show (⟨x.toArray⟩ : ByteArray) = bytesOf x from rfl] at m0
        have CU := hid (sput_calls w1.heap.size i (setD (H := H) (ps.take i)) (bytesOf x) wr (by rw [bytesOf_size]; exact hxs) HO.out (by omega))
        rw [bytesOf_list] at CU
        generalize bytesOf x = X at *
        clear hxs
        go_wp2_with (go_at_call 55; refine CU.out.mono ?_; rintro e w8 ⟨rfl, ho8, hg8⟩; refine Hid.out ?_)
        refine hid ?_
        have HO8 := hid ho8
        have HB8 := hid (HB.out.grown hg8 HB.out.size (fun k hk => by cases hk; exact hz1))
        clear ho8 hg8 m0
        go_wp2
        go_roundw
        case rel => exact ⟨i + 1, by omega, by go_num, HB8.out, hid (by rw [HTK.out, set_snoc]; exact HO8.out)⟩
        case measure => simp [RowKit.intOf]; omega
      · have hie : i = ps.length := by omega
        subst hie
        go_wp2
        go_ret2
        exact ⟨HB.out, Or.inr ⟨(by first | trivial | rfl), _, rfl, hz1, by have h := HO.out; rw [List.take_of_length_le (Nat.le_refl _)] at h; exact h⟩⟩

theorem left_start {H : Type} {ps : List (List UInt8)} : (true = true) ↔ ∀ x ∈ ps, has (setD (H := H) ps) (.string x) = false → (nodeOf (bytesOf x)).1 = 6 :=
  ⟨fun _ x hx h => (by rw [(set_has ps x).2 hx] at h; cases h), fun _ => rfl⟩

theorem left_end {ps : List (List UInt8)} {left : Lit → Bool} {b : Bool} (h0 : ∀ kl, left kl = false) (h : b = true ↔ ∀ x ∈ ps, left (.string x) = false → (nodeOf (bytesOf x)).1 = 6) : b = pubsB ps ps.length := by
  rw [Bool.eq_iff_iff, pubs_iff, h]
  exact ⟨fun hh x hx => hh x hx (h0 _), fun hh x hx _ => hh x hx⟩

theorem left_step {ps : List (List UInt8)} {left : Lit → Bool} {b : Bool} {x : List UInt8} (hx : x ∈ ps) (h : b = true ↔ ∀ z ∈ ps, left (.string z) = false → (nodeOf (bytesOf z)).1 = 6) :
    (b && decide ((nodeOf (bytesOf x)).1 = 6)) = true ↔ ∀ z ∈ ps, (left (.string z) && !(Lit.string z).sameKey (.string x)) = false → (nodeOf (bytesOf z)).1 = 6 := by
  rw [Bool.and_eq_true, decide_eq_true_iff, h]
  constructor
  · rintro ⟨h1, h2⟩ z hz hl
    cases hlz : left (.string z) with
    | false => exact h1 z hz hlz
    | true =>
      rw [hlz, Bool.true_and] at hl
      have : z = x := by simpa [Lit.sameKey] using hl
      rw [this]
      exact h2
  · intro hh
    exact ⟨fun z hz hl => hh z hz (by rw [hl]; rfl), hh x hx (by simp [Lit.sameKey])⟩

/-- What readIssuers answers: right or not, and then the set. -/
def IssPost (ps : List (List UInt8)) (w : World) (e : Ending) (w' : World) : Prop :=
  ∃ mv, e = .returned (.tuple #[.map mv, .bool (someB ps 8 && pubsB ps ps.length)]) ∧ Below w.heap.size w w' ∧ (someB ps 8 = true → ∃ s, mv = some s ∧ w.heap.size ≤ s ∧ w'.ownsMap Tryz.prog 9 (unitElem (H := Unit)) s ps.length (setD ps))

theorem iss_no {ps : List (List UInt8)} {w w' : World} {e : Ending} {mv : Option Nat} (hr : someB ps 8 = false) (he : e = .returned (.tuple #[.map mv, .bool false])) (hb : Below w.heap.size w w') : IssPost ps w e w' :=
  ⟨mv, by rw [he, hr, Bool.false_and], hb, fun h => by rw [hr] at h; cases h⟩

theorem iss_yes {ps : List (List UInt8)} {w w' : World} {e : Ending} {s : Nat} (hr : someB ps 8 = true) (he : e = .returned (.tuple #[.map (some s), .bool (pubsB ps ps.length)])) (hb : Below w.heap.size w w') (hs : w.heap.size ≤ s) (ho : w'.ownsMap Tryz.prog 9 (unitElem (H := Unit)) s ps.length (setD ps)) : IssPost ps w e w' :=
  ⟨some s, by rw [he, hr, Bool.true_and], hb, fun _ => ⟨s, rfl, hs, ho⟩⟩

theorem rg_owns {H : Type} {w : World} {k : TypeId} {R : Value → Option (DataW H × List MemPlace)} {b r n cnt : Nat} {D : DataW H} {left : Lit → Bool} (h : w.ranges Tryz.prog k R b r n D left cnt) : w.ownsMap Tryz.prog k R b n D := by
  obtain ⟨es, clock, since, seen, c0, hb, F, hs, hD, _⟩ := h
  exact ⟨es, clock, hb, F, hs, hD⟩

set_option maxRecDepth 20000 in
set_option maxHeartbeats 4000000 in
theorem iss_calls (ps : List (List UInt8)) (hm : ps.length ≤ 1048576) (hs : ∀ p ∈ ps, p.length ≤ 9223372036854775807) (b : Value) (w : World) (hb : TextsAt w b ps) (hT : Tab w) (hG : 0 < w.heap.size) :
    Calls Tryz.prog 51 #[b] w (IssPost ps w) := by
  have CR := hid (rread_calls Unit ps hm hs 8 (by omega) b w hb hT hG)
  unfold RisPost at CR
  have HT := hid (fun W (hb : Below w.heap.size w W) => tab_on hT hG hb)
  have HGG := hid (fun W (hb : Below w.heap.size w W) => Nat.lt_of_lt_of_le hG hb.size)
  have KC := hid (fun (x : ByteArray) W hT hG => kind_impl x W hT hG)
  obtain ⟨q, d, rfl, hrest⟩ := hb
  clear hrest hs hT hG
  cases hr : someB ps 8 with
  | false =>
    have CR2 : Hid (Calls Tryz.prog 52 #[.slice q ps.length d, .int .i64 8] w fun e w' => e = .returned (.tuple #[.map none, .bool false]) ∧ Below w.heap.size w w') := hid (CR.out.mono fun e w' h => by
      rcases h with ⟨hb, ⟨_, he⟩ | ⟨hy, _⟩⟩
      · exact ⟨he, hb⟩
      · rw [hr] at hy; cases hy)
    have HRS := hid hr
    clear CR hr
    go_enter Tryz.func51, Tryz.ntmps51
    go_wp2_with (go_at_call 52; refine CR2.out.mono ?_; rintro e w1 ⟨rfl, hb1⟩; refine Hid.out ?_)
    refine hid ?_
    have HB1 := hid hb1
    clear hb1
    have hrg := run_range_nilMap (P := Tryz.prog) w1 49 9 90 Tryz.underlying49
    have hnx : ∀ ty, (Instr.next (.pointer (some ⟨w1.heap.size, 0, none⟩)) false ty).run Tryz.prog (w1.alloc (.mapIter none 0 #[] 0)) = _ := fun ty => run_next_nilMap w1 ty 0 0 #[]
    go_wp2
    refine wp_loop_rounds 1 ?_
    rw [rounds_succ]
    go_wp2
    go_ret2
    exact iss_no HRS.out rfl (HB1.out.alloc HB1.out.size _)
  | true =>
    have CR2 : Hid (Calls Tryz.prog 52 #[.slice q ps.length d, .int .i64 8] w fun e w' => ∃ s, e = .returned (.tuple #[.map (some s), .bool true]) ∧ Below w.heap.size w w' ∧ w.heap.size ≤ s ∧ w'.ownsMap Tryz.prog 9 (unitElem (H := Unit)) s ps.length (setD ps)) := hid (CR.out.mono fun e w' h => by
      rcases h with ⟨hb, ⟨hy, _⟩ | ⟨_, s, he, hs, ho⟩⟩
      · rw [hr] at hy; cases hy
      · exact ⟨s, he, hb, hs, ho⟩)
    have HRS := hid hr
    clear CR hr
    go_enter Tryz.func51, Tryz.ntmps51
    go_wp2_with (go_at_call 52; refine CR2.out.mono ?_; rintro e w1 ⟨s, rfl, hb1, hs1, ho1⟩; refine Hid.out ?_)
    refine hid ?_
    have HB1 := hid hb1
    have HO1 := hid ho1
    have hz1 := hb1.size
    clear hb1 ho1
    go_wp2_with (first
      | (at_range; refine wpList_range_own _ rfl _ 49 rfl 9 90 setKeyed Tryz.underlying49 _ s ps.length _ rfl HO1.out ?_; intro w0 hrg0 hg0 hs0)
      | (fail "no arm"))
    go_frame
    go_loopw [5, 6] (fun okv _ wr => ∃ (left : Lit → Bool) (cnt : Nat) (b : Bool), wr.ranges Tryz.prog 9 (unitElem (H := Unit)) s w1.heap.size ps.length (setD ps) left cnt ∧ Below w.heap.size w wr ∧ okv = .bool b ∧ Hid (b = true ↔ ∀ x ∈ ps, left (.string x) = false → (nodeOf (bytesOf x)).1 = 6))
      (fun _ _ wr => wr.rangeLeft s w1.heap.size)
    case atStart => exact ⟨_, _, true, hrg0, HB1.out.grown hg0 hz1 (fun j hj => by cases hj), rfl, hid left_start⟩
    case round =>
      obtain ⟨left, cnt, b, hrg, hbel, rfl, HL⟩ := hrel
      have HB := hid hbel
      clear hbel
      go_wp2_with (first
        | (at_next; refine wpList_next_ranges _ rfl _ rfl 9 setKeyed (unitElem (H := Unit)) (fun x : ByteArray => Value.string x) (fun _ : Unit => Value.agg #[]) (fun key kl h => key_str h) (fun v y h => unit_inv h) s w1.heap.size ps.length _ _ _ rfl hrg ?_ ?_)
        | (fail "no arm"))
      · intro _ hl0
        have HE := hid (left_end hl0 HL.out)
        have HOM := hid (rg_owns hrg)
        go_wp2
        go_ret2
        exact iss_yes HRS.out (by rw [HE.out] <;> rfl) HB.out hs1 HOM.out
      · intro x c kl y w2 cnt1 hkl hlx hry hat hrg1 hlt hg1 hs1 hen
        have hkx := key_lit hkl
        subst hkx
        have HMEM : Hid (x.data.toList ∈ ps) := hid ((set_has (H := Unit) ps x.data.toList).1 (has_true_of_atKey hat))
        have HB2 := hid (HB.out.grown hg1 HB.out.size (fun j hj => by cases hj; exact hz1))
        have HST := hid (left_step HMEM.out HL.out)
        have KX := hid (fun W hT hG => KC.out x W hT hG)
        rw [set_bytes x] at HST
        generalize (nodeOf x).1 = kk at *
        clear hat hry HMEM HL KC
        cases b with
        | false =>
          rw [Bool.false_and] at HST
          go_wp2
          go_roundw
          case rel => exact ⟨_, cnt1, false, hrg1, HB2.out, rfl, HST⟩
          case measure => rw [hrg1.left_eq, hrg.left_eq]; exact hlt
        | true =>
          rw [Bool.true_and] at HST
          have HLQ := hid (show wr.rangeLeft s w1.heap.size = cnt from hrg.left_eq)
          clear hrg
          go_wp2_with (go_at_call 63; refine (KX.out _ (HT.out _ HB2.out) (HGG.out _ HB2.out)).mono ?_; rintro e w8 ⟨rfl, hb8⟩; refine Hid.out ?_)
          refine hid ?_
          have HB8 := hid (HB2.out.trans (hb8.mono HB2.out.size))
          have hrg8 := hrg1.kept (grown_below (row := none) hb8) (by simp) (by simp)
          clear hb8 hrg1
          by_cases h6 : kk = 6
          · subst h6
            have hk6 : (((6 : Nat) : Int) == 6) = true := rfl
            rw [decide_eq_true rfl] at HST
            go_wp2
            go_roundw
            case rel => exact ⟨_, cnt1, true, hrg8, HB8.out, rfl, HST⟩
            case measure => rw [hrg8.left_eq, HLQ.out]; exact hlt
          · have hk6 : (((kk : Nat) : Int) == 6) = false := by rw [beq_eq_false_iff_ne]; omega
            rw [decide_eq_false h6] at HST
            clear h6
            go_wp2
            go_roundw
            case rel => exact ⟨_, cnt1, false, hrg8, HB8.out, rfl, HST⟩
            case measure => rw [hrg8.left_eq, HLQ.out]; exact hlt
end Go.Proofs.YtjaaplcgphlccaaGreatDoor
