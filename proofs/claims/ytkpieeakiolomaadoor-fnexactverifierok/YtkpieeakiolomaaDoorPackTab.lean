/- Laid together: NonceBoth, TabPlain, TwoBox, IntRows, NvCopy, NvRows, TabImpl, TabSpec, TabBoth. -/
import Derived.Test.YtkpieeakiolomaaDoorMeasBoth
import Derived.Test.YtkpieeakiolomaaDoorPackRow
import Derived.Test.YtkpieeakiolomaaDoorBase
import Derived.Test.YtkpieeakiolomaaDoorProg
import Derived.WalkKit
import Derived.WalkSpells
import Derived.WalkLawsBesides
import Derived.Lib.Hide
import Derived.Deep.MidRow
import Derived.Laws.CopyOwn
import Derived.Deep.QuietTactic
import Derived.BigQuiet
import Derived.RegionTactic
import Derived.Maps.OwnSet
import Derived.Maps.OwnOps

namespace Go.Proofs.YtkpieeakiolomaaDoor
open Go.RowKit
open Go.Lib (hid)

theorem secret_nd (x : ByteArray) : secretB x.data.toList = decide ((nodeOf x).1 = 2) := by
  rw [Bool.eq_iff_iff, decide_eq_true_iff]
  unfold nodeOf
  by_cases h4 : x.size ≤ 4000
  · rw [if_pos h4]; exact kind_two.symm
  · rw [if_neg h4]
    refine ⟨fun h => ?_, fun h => by cases h⟩
    have hsz : x.data.toList.length = x.size := by simp
    generalize x.data.toList = L at *
    cases L with
    | nil => cases h
    | cons c r =>
      unfold secretB at h
      rw [Bool.and_eq_true] at h
      have h2 := h.2
      cases r with
      | nil => cases h2
      | cons c2 r2 =>
        unfold nameB at h2
        simp at h2 hsz
        omega

/-- What a nonce is made of. -/
def nonceOf (key : List UInt8) (k : Nat) : List (List UInt8) := [key, Num.nameOf k]

/-- Is there a nonce, and its text. -/
def nonceOut (key : List UInt8) (n : Int) : Bool × List UInt8 :=
  if (0 ≤ n ∧ n ≤ 1000000000) ∧ secretB key = true then (madeB 4 (nonceOf key n.toNat), tmWith 4 (nonceOf key n.toNat)) else (false, [])


set_option maxRecDepth 20000 in
set_option maxHeartbeats 2000000 in
theorem nonce_spec (key : ByteArray) (n : Int) (w : World) :
    Calls Tryd.prog 99 #[.string key, .int .i64 n] w (MadeOut w (nonceOut key.data.toList n).1 (nonceOut key.data.toList n).2) := by
  by_cases h : 0 ≤ n ∧ n ≤ 1000000000
  · obtain ⟨k, rfl⟩ := Int.eq_ofNat_of_zero_le h.1
    have hk : k ≤ 1000000000 := by omega
    have HR := hid h
    clear h
    have CN := hid (fun (W : World) => Num.specNumber_yes k hk W)
    obtain ⟨nm, hnm⟩ : ∃ nm : ByteArray, (⟨(Num.nameOf k).toArray⟩ : ByteArray) = nm := ⟨_, rfl⟩
    rw [hnm] at CN
    cases hs : secretB key.data.toList with
    | false =>
      have HO : Hid (nonceOut key.data.toList k = (false, [])) := hid (by unfold nonceOut; rw [hs]; simp)
      rw [HO.out]
      have HS := hid hs
      clear hs hnm
      go_enter Tryd.func99, Tryd.ntmps99
      go_wp2_with (go_at_call 69; refine (CN.out _).mono ?_; rintro e w1 ⟨rfl, hb1⟩; refine Hid.out ?_)
      refine hid ?_
      have HB1 := hid hb1
      clear hb1
      go_wp2_with (go_at_call 59; refine (ssecret_calls key _).mono ?_; rintro e w5 ⟨rfl, e5⟩; rw [e5, HS.out]; clear e5 w5; refine Hid.out ?_)
      refine hid ?_
      go_wp2
      go_ret2
      exact ⟨rfl, HB1.out⟩
    | true =>
      have HO : Hid (nonceOut key.data.toList k = (madeB 4 (nonceOf key.data.toList k), tmWith 4 (nonceOf key.data.toList k))) := hid (by unfold nonceOut; rw [hs, if_pos ⟨⟨by omega, by omega⟩, rfl⟩, Int.toNat_natCast])
      rw [HO.out]
      dsimp only
      have M1 := hid (fun (W : World) => (make_spec 4 (nonceOf key.data.toList k) _ _ (lit_texts W #[.string key, .string nm] 9 (nonceOf key.data.toList k) (fun j hj => by
        match j, hj with
        | 0, _ => exact congrArg (fun b => some (Value.string b)) (back_bytes key).symm
        | 1, _ => rw [← hnm]; rfl))))
      unfold MadeOut at M1 ⊢
      simp only [show Int.toNat 4 = 4 from rfl] at M1
      have HS := hid hs
      clear hs hnm
      generalize madeB 4 (nonceOf key.data.toList k) = b at *
      generalize tmWith 4 (nonceOf key.data.toList k) = t at *
      obtain ⟨y, hy⟩ : ∃ y : ByteArray, (if b = true then bytesOf t else ⟨#[]⟩) = y := ⟨_, rfl⟩
      have M2 : Hid (∀ (W : World), Calls Tryd.prog 71 #[.int .i64 4, .slice (some ⟨W.heap.size, 0, none⟩) 2 2] (W.alloc (.cells #[.string key, .string nm] 9)) fun e w' => e = .returned (.tuple #[.string y, .bool b]) ∧ Below W.heap.size W w') := hid (fun W => (M1.out W).mono fun e w' h => by
        rw [hy] at h
        exact ⟨h.1, ((Below.refl _ _).alloc (Nat.le_refl _) _).trans (h.2.mono (by simp))⟩)
      rw [hy]
      clear hy M1
      go_enter Tryd.func99, Tryd.ntmps99
      go_wp2_with (go_at_call 69; refine (CN.out _).mono ?_; rintro e w1 ⟨rfl, hb1⟩; refine Hid.out ?_)
      refine hid ?_
      have HB1 := hid hb1
      clear hb1
      go_wp2_with (go_at_call 59; refine (ssecret_calls key _).mono ?_; rintro e w5 ⟨rfl, e5⟩; rw [e5, HS.out]; clear e5 w5; refine Hid.out ?_)
      refine hid ?_
      go_wp2_with (go_at_call 71; refine (M2.out _).mono ?_; rintro e w6 ⟨rfl, hb6⟩; refine Hid.out ?_)
      refine hid ?_
      have HB6 := hid (HB1.out.trans (hb6.mono HB1.out.size))
      clear hb6
      go_wp2
      go_ret2
      exact ⟨rfl, HB6.out⟩
  · have HO : Hid (nonceOut key.data.toList n = (false, [])) := hid (by unfold nonceOut; rw [if_neg (fun hh => h hh.1)])
    rw [HO.out]
    go_enter Tryd.func99, Tryd.ntmps99
    go_wp2_with (go_at_call 69; refine (Num.specNumber_no _ h _).mono ?_; rintro e w1 ⟨rfl, rfl⟩)
    all_goals
      go_ret2
      exact ⟨rfl, Below.refl _ _⟩


set_option maxRecDepth 20000 in
set_option maxHeartbeats 2000000 in
theorem nonce_impl (key : ByteArray) (n : Int) (w : World) (hT : Tab w) (hG : 0 < w.heap.size) (hP : Lib.TabIs Tryd.prog w "internal/strconv.uint64pow10" .u64 Lib.pow10Tab) :
    Calls Tryd.prog 169 #[.string key, .int .i64 n] w (MadeOut w (nonceOut key.data.toList n).1 (nonceOut key.data.toList n).2) := by
  have HT := hid hT
  have HP := hid hP
  have CK := hid (fun W hT hG => kind_impl key W hT hG)
  by_cases h : 0 ≤ n ∧ n ≤ 1000000000
  · obtain ⟨k, rfl⟩ := Int.eq_ofNat_of_zero_le h.1
    have hk : k ≤ 1000000000 := by omega
    have HR := hid h
    clear h
    have CN := hid (fun (W : World) (hp : Lib.TabIs Tryd.prog W "internal/strconv.uint64pow10" .u64 Lib.pow10Tab) => Num.implNumber_yes k hk W hp)
    clear hT hP
    obtain ⟨nm, hnm⟩ : ∃ nm : ByteArray, (⟨(Num.nameOf k).toArray⟩ : ByteArray) = nm := ⟨_, rfl⟩
    rw [hnm] at CN
    cases hs : secretB key.data.toList with
    | false =>
      have HO : Hid (nonceOut key.data.toList k = (false, [])) := hid (by unfold nonceOut; rw [hs]; simp)
      rw [HO.out]
      rw [secret_nd] at hs
      have hs2 := of_decide_eq_false hs
      have hs3 : ¬ ((((nodeOf key).1 : Nat) : Int) = 2) := by omega
      clear hs hs2 hnm
      generalize (nodeOf key).1 = kk at *
      go_enter Tryd.func169, Tryd.ntmps169
      go_wp2_with (go_at_call 72; refine (CN.out _ HP.out).mono ?_; rintro e w1 ⟨rfl, hb1⟩; refine Hid.out ?_)
      refine hid ?_
      have T1 := hid (tab_on HT.out hG hb1)
      have g1 := Nat.lt_of_lt_of_le hG hb1.size
      have HB1 := hid hb1
      clear hb1
      go_wp2_with (go_at_call 65; refine (CK.out _ T1.out g1).mono ?_; rintro e w5 ⟨rfl, hb5⟩; refine Hid.out ?_)
      refine hid ?_
      have HB5 := hid (HB1.out.trans (hb5.mono HB1.out.size))
      clear hb5
      go_wp2
      go_ret2
      exact ⟨rfl, HB5.out⟩
    | true =>
      have HO : Hid (nonceOut key.data.toList k = (madeB 4 (nonceOf key.data.toList k), tmWith 4 (nonceOf key.data.toList k))) := hid (by unfold nonceOut; rw [hs, if_pos ⟨⟨by omega, by omega⟩, rfl⟩, Int.toNat_natCast])
      rw [HO.out]
      dsimp only
      have M1 := hid (fun (W : World) hT (hG : 0 < W.heap.size) => (make_impl 4 (nonceOf key.data.toList k) (some ⟨W.heap.size, 0, none⟩) 2 (Nat.le_refl _) _ (lit_texts W #[.string key, .string nm] 9 (nonceOf key.data.toList k) (fun j hj => by
        match j, hj with
        | 0, _ => exact congrArg (fun b => some (Value.string b)) (back_bytes key).symm
        | 1, _ => rw [← hnm]; rfl)) (tab_on hT hG ((Below.refl _ _).alloc (Nat.le_refl _) _)) (Nat.lt_of_lt_of_le hG (by simp))))
      unfold MadeOut at M1 ⊢
      simp only [show Int.toNat 4 = 4 from rfl] at M1
      rw [secret_nd] at hs
      have hs2 := of_decide_eq_true hs
      have hs3 : (((nodeOf key).1 : Nat) : Int) = 2 := by omega
      clear hs hs2 hnm
      generalize (nodeOf key).1 = kk at *
      generalize madeB 4 (nonceOf key.data.toList k) = b at *
      generalize tmWith 4 (nonceOf key.data.toList k) = t at *
      obtain ⟨y, hy⟩ : ∃ y : ByteArray, (if b = true then bytesOf t else ⟨#[]⟩) = y := ⟨_, rfl⟩
      have M2 : Hid (∀ (W : World) (_ : Tab W) (_ : 0 < W.heap.size), Calls Tryd.prog 121 #[.int .i64 4, .slice (some ⟨W.heap.size, 0, none⟩) 2 2] (W.alloc (.cells #[.string key, .string nm] 9)) fun e w' => e = .returned (.tuple #[.string y, .bool b]) ∧ Below W.heap.size W w') := hid (fun W hT hG => (M1.out W hT hG).mono fun e w' h => by
        rw [hy] at h
        exact ⟨h.1, ((Below.refl _ _).alloc (Nat.le_refl _) _).trans (h.2.mono (by simp))⟩)
      rw [hy]
      clear hy M1
      go_enter Tryd.func169, Tryd.ntmps169
      go_wp2_with (go_at_call 72; refine (CN.out _ HP.out).mono ?_; rintro e w1 ⟨rfl, hb1⟩; refine Hid.out ?_)
      refine hid ?_
      have T1 := hid (tab_on HT.out hG hb1)
      have g1 := Nat.lt_of_lt_of_le hG hb1.size
      have HB1 := hid hb1
      clear hb1
      go_wp2_with (go_at_call 65; refine (CK.out _ T1.out g1).mono ?_; rintro e w5 ⟨rfl, hb5⟩; refine Hid.out ?_)
      refine hid ?_
      have T5 := hid (tab_on T1.out g1 hb5)
      have g5 := Nat.lt_of_lt_of_le g1 hb5.size
      have HB5 := hid (HB1.out.trans (hb5.mono HB1.out.size))
      clear hb5
      go_wp2_with (go_at_call 121; refine (M2.out _ T5.out g5).mono ?_; rintro e w6 ⟨rfl, hb6⟩; refine Hid.out ?_)
      refine hid ?_
      have HB6 := hid (HB5.out.trans (hb6.mono HB5.out.size))
      clear hb6
      go_wp2
      go_ret2
      exact ⟨rfl, HB6.out⟩
  · have HO : Hid (nonceOut key.data.toList n = (false, [])) := hid (by unfold nonceOut; rw [if_neg (fun hh => h hh.1)])
    rw [HO.out]
    go_enter Tryd.func169, Tryd.ntmps169
    go_wp2_with (go_at_call 72; refine (Num.implNumber_no _ h _).mono ?_; rintro e w1 ⟨rfl, rfl⟩)
    all_goals
      go_ret2
      exact ⟨rfl, Below.refl _ _⟩

end Go.Proofs.YtkpieeakiolomaaDoor

namespace Go.Proofs.YtkpieeakiolomaaDoor
open Go.RowKit
open Go.Lib (hid)

/-- Is the nonce at a place fine, and behind the one ahead of it. -/
def ncGood (now next : Int) (es : List NonceD) (i : Nat) : Bool :=
  decide ((0 ≤ (es.getD i zNonce).x0 ∧ (es.getD i zNonce).x0 ≤ next - 1) ∧ (0 ≤ (es.getD i zNonce).x1 ∧ (es.getD i zNonce).x1 ≤ now) ∧ (0 < i → (es.getD (i - 1) zNonce).x0 < (es.getD i zNonce).x0 ∧ (es.getD (i - 1) zNonce).x1 ≤ (es.getD i zNonce).x1))

def ncAll (now next : Int) (es : List NonceD) (n : Nat) : Bool := (List.range n).all (ncGood now next es)

theorem ncAll_succ (now next : Int) (es : List NonceD) (n : Nat) : ncAll now next es (n + 1) = (ncAll now next es n && ncGood now next es n) := by
  unfold ncAll
  rw [List.range_succ, List.all_append]
  simp

theorem ncAll_no {now next : Int} {es : List NonceD} {n m : Nat} (h : ncGood now next es n = false) (hm : n < m) : ncAll now next es m = false := by
  unfold ncAll
  rw [Bool.eq_false_iff]
  intro ht
  rw [List.all_eq_true] at ht
  have := ht n (List.mem_range.2 hm)
  rw [h] at this
  cases this

/-- Is it a right Table. -/
def tabB (key : List UInt8) (now next : Int) (es : List NonceD) : Bool :=
  secretB key && (decide (0 ≤ now ∧ now ≤ 1000000000) && (decide (0 ≤ next ∧ next ≤ 1000000000) && (decide (es.length ≤ 8) && ncAll now next es es.length)))

theorem nc_at {es : List NonceD} {i : Nat} (h : i < es.length) : es.getD i zNonce = es[i] := by simp [List.getD, h]

theorem four_cells {W : World} {b : Nat} {x0 x1 x2 x3 : Value} {t : TypeId} (h : W.heap[b]? = some (.cells #[x0, x1, x2, x3] t)) :
    W.cell? ⟨b, 0, none⟩ = some x0 ∧ W.cell? ⟨b, 1, none⟩ = some x1 ∧ W.cell? ⟨b, 2, none⟩ = some x2 ∧ W.cell? ⟨b, 3, none⟩ = some x3 :=
  ⟨(cell_of_row W b 0 _ _ _ h).trans rfl, (cell_of_row W b 1 _ _ _ h).trans rfl, (cell_of_row W b 2 _ _ _ h).trans rfl, (cell_of_row W b 3 _ _ _ h).trans rfl⟩
end Go.Proofs.YtkpieeakiolomaaDoor

namespace Go.Proofs.YtkpieeakiolomaaDoor
open Go.RowKit

theorem heap_two_old {w : World} (x y : Obj) : ((w.alloc x).alloc y).heap[w.heap.size]? = some x := by
  have h := heap_alloc_new w x
  rw [(((Below.refl (w.alloc x).heap.size (w.alloc x)).alloc (Nat.le_refl _) y).block _ (by simp))]
  exact h

theorem heap_two_new {w : World} (x y : Obj) : ((w.alloc x).alloc y).heap[w.heap.size + 1]? = some y := by
  have h := heap_alloc_new (w.alloc x) y
  simpa using h

theorem size_two (w : World) (x y : Obj) : ((w.alloc x).alloc y).heap.size = w.heap.size + 2 := by simp
end Go.Proofs.YtkpieeakiolomaaDoor

namespace Go.Proofs.YtkpieeakiolomaaDoor
open Go.RowKit
open Go.Lib (hid)

/-- Integers as they lie in a row. -/
def ints (l : List Int) : List Value := l.map (Value.int .i64)

theorem ints_len (l : List Int) : (ints l).length = l.length := by simp [ints]

theorem ints_at (l : List Int) (i : Nat) (h : i < l.length) : (ints l)[i]? = some (.int .i64 l[i]) := by simp [ints, h]

theorem ints_append (a b : List Int) : ints (a ++ b) = ints a ++ ints b := by simp [ints]

theorem ints_one (l : List Int) : ∀ v ∈ ints l, v.oneCell' = true := by
  intro v hv
  obtain ⟨x, _, rfl⟩ := List.mem_map.1 hv
  rfl

/-- All numbers of a list lie in 0 .. a thousand million. -/
def Numb (l : List Int) : Prop := ∀ x ∈ l, 0 ≤ x ∧ x ≤ 1000000000

/-- The same as a test. -/
def numbB (l : List Int) : Bool := l.all fun x => decide (0 ≤ x ∧ x ≤ 1000000000)

theorem numbB_iff {l : List Int} : numbB l = true ↔ Numb l := by simp [numbB, Numb]

theorem numbB_no {l : List Int} (h : ¬ Numb l) : numbB l = false := by
  cases hb : numbB l with
  | false => rfl
  | true => exact absurd (numbB_iff.1 hb) h

theorem numb_sum {l : List Int} (h : Numb l) : 0 ≤ l.sum ∧ l.sum ≤ l.length * 1000000000 := by
  induction l with
  | nil => simp
  | cons a l ih =>
    have h1 := h a (by simp)
    have h2 := ih (fun x hx => h x (by simp [hx]))
    simp only [List.sum_cons, List.length_cons]
    omega

theorem numb_take {l : List Int} (h : Numb l) (i : Nat) : Numb (l.take i) := fun x hx => h x (List.mem_of_mem_take hx)

theorem numb_succ (l : List Int) (i : Nat) (h : i < l.length) : Numb (l.take (i + 1)) ↔ Numb (l.take i) ∧ 0 ≤ l[i] ∧ l[i] ≤ 1000000000 := by
  rw [List.take_succ_eq_append_getElem h]
  constructor
  · intro hn
    exact ⟨fun x hx => hn x (List.mem_append_left _ hx), hn l[i] (List.mem_append_right _ (List.mem_singleton.2 rfl))⟩
  · intro hn x hx
    rcases List.mem_append.1 hx with hx | hx
    · exact hn.1 x hx
    · obtain rfl := List.mem_singleton.1 hx; exact hn.2

theorem sum_take (l : List Int) (i : Nat) (h : i < l.length) : (l.take (i + 1)).sum = (l.take i).sum + l[i] := by
  rw [List.take_succ_eq_append_getElem h, List.sum_append]; simp

/-- 'a[i]' of an array of integers by value. -/
theorem run_index_ints {P : Program} (t e : TypeId) (l : List Int) (i : Nat) (hi : i < l.length) (hu : P.underlying t = some (.array l.length e)) (ha : ∀ w, (isAgg e).run P w = .ok false w) (hz : ∀ w, (sizeOf e).run P w = .ok 1 w) (w : World) :
    (Instr.index t (.agg (ints l).toArray) (.int .i64 i)).run P w = .ok (.int .i64 l[i]) w := by
  have h1 : (0 ≤ (i : Int) ∧ (i : Int) < (l.length : Int)) := by omega
  have h2 := ints_at l i hi
  simp [Instr.index, run_underlying hu, asIntOf, Sem.run_bind, part, ha, hz, hi, h2]
end Go.Proofs.YtkpieeakiolomaaDoor

namespace Go.Proofs.YtkpieeakiolomaaDoor
open Go.RowKit
open Go.Lib (hid)

/-- A copy's cells: its check, its numbers, its count. -/
def nvc (k : Int) (ns : List Int) (c : Int) : Array Value := (Value.int .i64 k :: (ints ns ++ [Value.int .i64 c])).toArray

theorem nvc_last (k c : Int) (ns : List Int) (hn : ns.length = 20) : (nvc k ns c)[21]? = some (.int .i64 c) := by
  have e : (nvc k ns c)[21]? = (Value.int .i64 k :: (ints ns ++ [Value.int .i64 c]))[21]? := by unfold nvc; simp
  rw [e, List.getElem?_cons_succ, List.getElem?_append_right (by simp [ints]; omega)]
  simp [ints, hn]

theorem nvc_range (k c : Int) (ns : List Int) (b : Nat) (t : TypeId) (fr : Nat × Nat) (w : World) (hb : w.heap[b]? = some (.cells (nvc k ns c) t fr)) : w.rangeAt b 1 (ints ns) := fun j v hv => by
  rw [cell_of_row w b (1 + j) _ t fr hb]
  have e : (nvc k ns c)[1 + j]? = (Value.int .i64 k :: (ints ns ++ [Value.int .i64 c]))[1 + j]? := by unfold nvc; simp
  rw [e, Nat.add_comm 1 j, List.getElem?_cons_succ, List.getElem?_append_left (List.getElem?_eq_some_iff.1 hv).1]
  exact hv

theorem nvc_size (k c : Int) (ns : List Int) (hn : ns.length = 20) : (nvc k ns c).size = 22 := by unfold nvc; simp [ints]; omega

theorem nvc_set (k k' c : Int) (ns : List Int) : (nvc k ns c).setIfInBounds 0 (.int .i64 k') = nvc k' ns c := by unfold nvc; simp

theorem nvc_one (k c : Int) (ns : List Int) : (nvc k ns c).all (·.oneCell') = true := by
  refine all_oneCell_toArray fun v hv => ?_
  rcases List.mem_cons.1 hv with rfl | hv
  · rfl
  · rcases List.mem_append.1 hv with hv | hv
    · exact ints_one ns v hv
    · obtain rfl := List.mem_singleton.1 hv; rfl

theorem nvc_first (k c : Int) (ns : List Int) : (nvc k ns c)[0]? = some (.int .i64 k) := by unfold nvc; simp

end Go.Proofs.YtkpieeakiolomaaDoor

namespace Go.Proofs.YtkpieeakiolomaaDoor
open Go.RowKit
open Go.Lib (hid)

/-- A slice of integers, wherever it begins in its block. -/
def RowIn (w : World) (a : Value) (l : List Int) : Prop :=
  ∃ p c, a = .slice p l.length c ∧ l.length ≤ c ∧ (l ≠ [] → ∃ g o, p = some ⟨g, o, none⟩ ∧ g < w.heap.size ∧ ∀ j (h : j < l.length), w.cell? ⟨g, o + j, none⟩ = some (.int .i64 l[j]))

theorem RowIn.on {w w' : World} {a : Value} {l : List Int} (h : RowIn w a l) (hb : Below w.heap.size w w') : RowIn w' a l := by
  obtain ⟨p, c, rfl, hc, hp⟩ := h
  refine ⟨p, c, rfl, hc, fun hne => ?_⟩
  obtain ⟨g, o, rfl, hg, hcell⟩ := hp hne
  exact ⟨g, o, rfl, Nat.lt_of_lt_of_le hg hb.size, fun j hj => by rw [hb.cell (p := ⟨g, o + j, none⟩) hg]; exact hcell j hj⟩

theorem row_in_own {w : World} {base : Nat} {a : Value} {l : List Int} (h : w.ownsRow base 2 1 a l.length (ints l)) : RowIn w a l := by
  rcases h.2 with ⟨hv, hz⟩ | ⟨g, cap, cur, e1, hbg, hg, hnc, _⟩
  · have hl : l = [] := List.eq_nil_of_length_eq_zero hz
    subst hl
    exact ⟨none, 0, hv, Nat.le_refl _, fun h => absurd rfl h⟩
  · refine ⟨_, cap, e1, hnc, fun _ => ⟨g, 0, rfl, (Array.getElem?_eq_some_iff.1 hg).1, fun j hj => ?_⟩⟩
    have := h.cells (g := g) (by rw [e1]; rfl) j (.int .i64 l[j]) (ints_at l j hj)
    rw [Addr.add_mid] at this
    exact this

theorem areNumbers_calls (l : List Int) (hn : l.length ≤ 1048576) (a : Value) (w : World) (ha : RowIn w a l) :
    Calls Tryd.prog 148 #[a] w fun e w' => e = .returned (.bool (numbB l)) ∧ w' = w := by
  obtain ⟨p, c, rfl, hc, hp⟩ := ha
  have HP := hid hp
  clear hp
  go_enter Tryd.func148, Tryd.ntmps148
  go_wp2
  go_loop [7] (fun iv => ∃ i : Nat, i ≤ l.length ∧ iv = .int .i64 i ∧ Hid (Numb (l.take i))) (fun iv => l.length - (RowKit.intOf iv).toNat)
  case atStart => exact ⟨0, Nat.zero_le _, rfl, hid (fun x hx => by simp at hx)⟩
  case round =>
    obtain ⟨i, hi, rfl, HN⟩ := hrel
    by_cases hlt : i < l.length
    · obtain ⟨g, o, rfl, hg, hcell⟩ := HP.out (fun h => by rw [h] at hlt; cases hlt)
      have hc1 := hcell i hlt
      have HS := hid (numb_succ l i hlt)
      have HI := hid (List.getElem_mem hlt)
      clear hcell
      generalize l[i] = x at *
      by_cases hx0 : x < 0
      · go_wp2
        go_ret
        refine ⟨?_, rfl⟩
        rw [numbB_no (fun h => by have := h x HI.out; omega)]; rfl
      · by_cases hx1 : x > 1000000000
        · go_wp2
          go_ret
          refine ⟨?_, rfl⟩
          rw [numbB_no (fun h => by have := h x HI.out; omega)]; rfl
        · go_wp2
          go_round
          case rel => exact ⟨i + 1, by omega, by go_num, hid (HS.out.2 ⟨HN.out, by omega, by omega⟩)⟩
          case measure => simp [RowKit.intOf]; omega
    · have hie : i = l.length := by omega
      subst hie
      go_wp2
      go_ret
      refine ⟨?_, rfl⟩
      have := HN.out
      rw [List.take_of_length_le (Nat.le_refl _)] at this
      rw [numbB_iff.2 this]
      rfl

/-- Can an Nv of this size keep them? -/
def ValsP (l : List Int) (size : Int) : Prop := 1 ≤ size ∧ size ≤ 20 ∧ (l.length : Int) = size ∧ Numb l

/-- The same as a test. -/
def valsB (l : List Int) (size : Int) : Bool := decide (1 ≤ size ∧ size ≤ 20 ∧ (l.length : Int) = size) && numbB l

theorem valsB_iff {l : List Int} {size : Int} : valsB l size = true ↔ ValsP l size := by simp [valsB, ValsP, numbB_iff, and_assoc]

theorem valsB_no {l : List Int} {size : Int} (h : ¬ ValsP l size) : valsB l size = false := by
  cases hb : valsB l size with
  | false => rfl
  | true => exact absurd (valsB_iff.1 hb) h

/-- Is an Nv formed? -/
def FormP (size : Int) (ws : List Int) : Prop := 1 ≤ size ∧ size ≤ 20 ∧ (ws.length : Int) = 2 * (size + 2) ∧ Numb ws

/-- The same as a test. -/
def formB (size : Int) (ws : List Int) : Bool := decide (1 ≤ size ∧ size ≤ 20 ∧ (ws.length : Int) = 2 * (size + 2)) && numbB ws

theorem formB_iff {size : Int} {ws : List Int} : formB size ws = true ↔ FormP size ws := by simp [formB, FormP, numbB_iff, and_assoc]

theorem formB_no {size : Int} {ws : List Int} (h : ¬ FormP size ws) : formB size ws = false := by
  cases hb : formB size ws with
  | false => rfl
  | true => exact absurd (formB_iff.1 hb) h

end Go.Proofs.YtkpieeakiolomaaDoor

namespace Go.Proofs.YtkpieeakiolomaaDoor
open Go.RowKit Go.WideMaps Go.Maps
open Go.Lib (hid)

theorem made_short {ps : List (List UInt8)} (h : madeB 4 ps = true) : (tmWith 4 ps).length ≤ 4000 := by
  unfold madeB at h
  have h2 := (of_decide_eq_true h).2.2
  simp only [show Int.toNat 4 = 4 from rfl] at h2
  exact (nodeOf_bytes _ (by rw [h2]; exact Nat.succ_ne_zero 3)).1

/-- The term of a number. -/
def ncL (key : List UInt8) (x : Int) : List UInt8 := if (nonceOut key x).1 = true then (nonceOut key x).2 else []

theorem ncL_short (key : List UInt8) (x : Int) : (ncL key x).length ≤ 4000 := by
  unfold ncL
  split
  · rename_i h
    unfold nonceOut at h ⊢
    split
    · rename_i h2
      rw [if_pos h2] at h
      exact made_short h
    · exact Nat.zero_le _
  · exact Nat.zero_le _

theorem ncL_bytes (key : List UInt8) (x : Int) : (if (nonceOut key x).1 = true then bytesOf (nonceOut key x).2 else (⟨#[]⟩ : ByteArray)) = bytesOf (ncL key x) := by
  unfold ncL
  split <;> rfl

section
variable {H : Type}

/-- How a Nonce reads in the book. -/
def ncElem (v : Value) : Option (DataW H × List MemPlace) :=
  match v with
  | .agg #[.int .i64 a, .int .i64 b] => some (.agg [.lit (.int .i64 a), .lit (.int .i64 b)], [])
  | _ => none

theorem ncElem_mk (a b : Int) : ncElem (H := H) (.agg #[.int .i64 a, .int .i64 b]) = some (.agg [.lit (.int .i64 a), .lit (.int .i64 b)], []) := rfl

/-- What the book holds. -/
def tabD (key : List UInt8) (es : List NonceD) : DataW H := es.foldl (fun D e => D.put (.string (ncL key e.x0)) (.agg [.lit (.int .i64 e.x0), .lit (.int .i64 e.x1)])) (.map [])

theorem tabD_snoc (key : List UInt8) (es : List NonceD) (e : NonceD) : tabD (H := H) key (es ++ [e]) = (tabD key es).put (.string (ncL key e.x0)) (.agg [.lit (.int .i64 e.x0), .lit (.int .i64 e.x1)]) := by
  unfold tabD
  rw [List.foldl_append]
  rfl
end

theorem strKeyed : Keyed Tryd.prog 9 := string_keyed Tryd.underlying9

/-- The last nonce ahead of a place. -/
def lastN (es : List NonceD) (i : Nat) : NonceD := if i = 0 then ⟨-1, 0⟩ else es.getD (i - 1) zNonce

theorem lastN_zero (es : List NonceD) : lastN es 0 = ⟨-1, 0⟩ := rfl
theorem lastN_succ {es : List NonceD} {i : Nat} (h : i < es.length) : lastN es (i + 1) = es[i] := by
  unfold lastN
  rw [if_neg (Nat.succ_ne_zero i), Nat.add_sub_cancel, nc_at h]

theorem nc_follow {now next : Int} {es : List NonceD} {i : Nat} (hi : i < es.length) (hall : ncAll now next es i = true) :
    ncGood now next es i = decide (((lastN es i).x0 < es[i].x0 ∧ (lastN es i).x1 ≤ es[i].x1) ∧ es[i].x0 < next ∧ es[i].x1 ≤ now) := by
  unfold ncGood
  rw [nc_at hi]
  cases i with
  | zero =>
    rw [lastN_zero]
    rw [decide_eq_decide]
    simp
    omega
  | succ j =>
    have hj : j < es.length := by omega
    rw [lastN_succ hj, Nat.add_sub_cancel, nc_at hj]
    rw [ncAll_succ, Bool.and_eq_true] at hall
    have hg := hall.2
    unfold ncGood at hg
    rw [nc_at hj] at hg
    have hg2 := of_decide_eq_true hg
    rw [decide_eq_decide]
    simp
    omega

set_option maxHeartbeats 1000000 in
theorem follows_calls (x y u v : Int) (w : World) :
    Calls Tryd.prog 149 #[.agg #[.int .i64 x, .int .i64 y], .agg #[.int .i64 u, .int .i64 v]] w fun e w' => e = .returned (.bool (decide (u < x ∧ v ≤ y))) ∧ Below w.heap.size w w' := by
  by_cases h1 : u < x
  · have g1 : x > u := h1
    by_cases h2 : v ≤ y
    · have g2 : y ≥ v := h2
      go_enter Tryd.func149, Tryd.ntmps149
      go_wp2
      go_ret
      exact ⟨by simp [h1, h2], ((Below.refl _ _).alloc (Nat.le_refl _) _).alloc (by simp) _⟩
    · have g2 : ¬ y ≥ v := h2
      go_enter Tryd.func149, Tryd.ntmps149
      go_wp2
      go_ret
      exact ⟨by congr 2; simp; omega, ((Below.refl _ _).alloc (Nat.le_refl _) _).alloc (by simp) _⟩
  · have g1 : ¬ x > u := h1
    go_enter Tryd.func149, Tryd.ntmps149
    go_wp2
    go_ret
    exact ⟨by congr 2; simp; omega, ((Below.refl _ _).alloc (Nat.le_refl _) _).alloc (by simp) _⟩

set_option maxRecDepth 20000 in
set_option maxHeartbeats 2000000 in
theorem put_calls {H : Type} (key : ByteArray) (x0 x1 : Value) (b m : Nat) (D : DataW H) (x y : Int) (w : World) (hT : Tab w) (hG : 0 < w.heap.size) (hP : Lib.TabIs Tryd.prog w "internal/strconv.uint64pow10" .u64 Lib.pow10Tab) (hown : w.ownsMap Tryd.prog 9 ncElem b m D) (hm : m < 1048576) :
    Calls Tryd.prog 150 #[.agg #[.string key, x0, x1, .map (some b)], .agg #[.int .i64 x, .int .i64 y]] w fun e w' => e = .returned (.string (bytesOf (ncL key.data.toList x))) ∧ w'.ownsMap Tryd.prog 9 ncElem b (m + 1) (D.put (.string (ncL key.data.toList x)) (.agg [.lit (.int .i64 x), .lit (.int .i64 y)])) ∧ w.grownBy w' (some b) := by
  have HT := hid hT
  have HP := hid hP
  have HOWN := hid hown
  have HBLT := hid hown.lt
  obtain ⟨W0, hW0⟩ : ∃ W0, W0 = (w.alloc (.cells #[.string key, x0, x1, .map (some b)] 156)).alloc (.cells #[.int .i64 x, .int .i64 y] 151) := ⟨_, rfl⟩
  have hb0 : Below w.heap.size w W0 := by rw [hW0]; exact ((Below.refl _ _).alloc (Nat.le_refl _) _).alloc (by simp) _
  have HB0 := hid hb0
  have HV0 : Hid (W0.heap[w.heap.size]? = some (.cells #[.string key, x0, x1, .map (some b)] 156)) := hid (by rw [hW0]; exact heap_two_old _ _)
  have HU0 : Hid (W0.heap[w.heap.size + 1]? = some (.cells #[.int .i64 x, .int .i64 y] 151)) := hid (by rw [hW0]; exact heap_two_new _ _)
  have hz0 : w.heap.size + 1 < W0.heap.size := by rw [hW0]; simp
  have HW0 := hid hW0
  have CN := hid (fun W (hb : Below w.heap.size w W) => nonce_impl key x W (tab_on hT hG hb) (Nat.lt_of_lt_of_le hG hb.size) (Num.tab_stays hb hP))
  unfold MadeOut at CN
  rw [ncL_bytes] at CN
  generalize (nonceOut key.data.toList x).1 = bb at *
  have hsz : (bytesOf (ncL key.data.toList x)).size ≤ maxLen := by
    rw [bytesOf_size]
    have := ncL_short key.data.toList x
    unfold maxLen
    omega
  have hkey : keyOf Tryd.prog 9 (.string (bytesOf (ncL key.data.toList x))) = some (.string (ncL key.data.toList x)) := keyOf_string_mk Tryd.underlying9 hsz
  have HK := hid hkey
  clear hT hP hown hW0 hkey hsz hb0
  generalize bytesOf (ncL key.data.toList x) = nb at *
  generalize ncL key.data.toList x = nl at *
  go_enter Tryd.func150, Tryd.ntmps150
  go_wp2_with (go_at_call 169; rw [← HW0.out]; refine (CN.out _ HB0.out).mono ?_; rintro e w1 ⟨rfl, hb1⟩; refine Hid.out ?_)
  refine hid ?_
  have HB1 := hid (HB0.out.trans (hb1.mono HB0.out.size))
  have HV1 := hid ((hb1.block w.heap.size (by omega)).trans HV0.out)
  have HU1 := hid ((hb1.block (w.heap.size + 1) (by omega)).trans HU0.out)
  clear hb1
  obtain ⟨k0, k1, k2, k3⟩ := four_cells HV1.out
  have j0 := (cell_of_row _ _ 0 _ _ _ HU1.out).trans rfl
  have j1 := (cell_of_row _ _ 1 _ _ _ HU1.out).trans rfl
  have HO1 := hid (HOWN.out.kept (grown_below (row := none) HB1.out) (by simp))
  go_wp2_with (first
    | (at_mapUpdate; refine wpList_mapUpdate_own _ rfl _ _ _ 154 rfl 9 151 strKeyed Tryd.underlying154 _ b m _ rfl HO1.out (by unfold maxLen; omega) _ _ _ rfl rfl HK.out _ [] (ncElem_mk x y) ?_; intro w2 hown2 hgrow2; refine Hid.out ?_)
    | (fail "no arm"))
  refine hid ?_
  have HO2 := hid hown2
  have HG2 := hid ((grown_below (row := some b) HB1.out).trans hgrow2)
  clear hown2 hgrow2
  go_wp2
  go_ret
  exact ⟨rfl, HO2.out, HG2.out⟩

theorem numb_two {a b : Int} (h : numbB [a, b] = true) : (0 ≤ a ∧ a ≤ 1000000000) ∧ (0 ≤ b ∧ b ≤ 1000000000) := by
  have h2 := numbB_iff.1 h
  exact ⟨h2 a (by simp), h2 b (by simp)⟩

theorem numb_two_no {a b : Int} (h : numbB [a, b] = false) (x : Bool) : (decide (0 ≤ a ∧ a ≤ 1000000000) && (decide (0 ≤ b ∧ b ≤ 1000000000) && x)) = false := by
  unfold numbB at h
  simp only [List.all_cons, List.all_nil, Bool.and_true] at h
  rw [← Bool.and_assoc, h, Bool.false_and]

/-- What opening a Table answers. -/
def OpenPost (H : Type) (key : ByteArray) (now next : Int) (es : List NonceD) (w : World) (e : Ending) (w' : World) : Prop :=
  Below w.heap.size w w' ∧ ((tabB key.data.toList now next es = false ∧ e = .returned (.tuple #[.agg #[.string ⟨#[]⟩, .int .i64 0, .int .i64 0, .map none], .bool false])) ∨
    (tabB key.data.toList now next es = true ∧ ∃ s, e = .returned (.tuple #[.agg #[.string key, .int .i64 now, .int .i64 next, .map (some s)], .bool true]) ∧ w.heap.size ≤ s ∧ w'.ownsMap Tryd.prog 9 (ncElem (H := H)) s es.length (tabD key.data.toList es)))

theorem four_thaw {W : World} {b : Nat} {V : Array Value} {t : TypeId} (h : W.heap[b]? = some (.cells V t)) (o : Nat) : W.frozen? ⟨b, o, none⟩ = false := by simp [World.frozen?, h]

theorem below_four {B b : Nat} {w W : World} (h : Below B w W) (hb : B ≤ b) (x0 x1 x2 x3 : Value) : Below B w ((((W.setCell ⟨b, 0, none⟩ x0).setCell ⟨b, 1, none⟩ x1).setCell ⟨b, 2, none⟩ x2).setCell ⟨b, 3, none⟩ x3) :=
  (((h.setCell (p := ⟨b, 0, none⟩) hb _).setCell (p := ⟨b, 1, none⟩) hb _).setCell (p := ⟨b, 2, none⟩) hb _).setCell (p := ⟨b, 3, none⟩) hb _

theorem row_two (w : World) (x y : Int) (t : TypeId) : RowIn (w.alloc (.cells #[.int .i64 x, .int .i64 y] t)) (.slice (some ⟨w.heap.size, 0, none⟩) 2 2) [x, y] := by
  refine ⟨_, 2, rfl, Nat.le_refl _, fun _ => ⟨w.heap.size, 0, rfl, by simp, fun j hj => ?_⟩⟩
  have : j = 0 ∨ j = 1 := by simp at hj; omega
  rcases this with rfl | rfl
  · exact (cell_of_row _ _ 0 _ _ _ (heap_alloc_new w _)).trans rfl
  · exact (cell_of_row _ _ 1 _ _ _ (heap_alloc_new w _)).trans rfl

set_option maxRecDepth 20000 in
set_option maxHeartbeats 4000000 in
theorem open_calls {H : Type} (key : ByteArray) (now next : Int) (es : List NonceD) (hn : es.length ≤ 1048576) (a : Value) (w : World) (ha : FRow encNonce 2 w a es) (hT : Tab w) (hG : 0 < w.heap.size) (hP : Lib.TabIs Tryd.prog w "internal/strconv.uint64pow10" .u64 Lib.pow10Tab) :
    Calls Tryd.prog 112 #[.agg #[.string key, .int .i64 now, .int .i64 next, a]] w (OpenPost H key now next es w) := by
  unfold OpenPost
  have hmm := @run_makeMap Tryd.prog
  have HA := hid ha
  have HT := hid (fun W (hb : Below w.heap.size w W) => tab_on hT hG hb)
  have HP := hid (fun W (hb : Below w.heap.size w W) => Num.tab_stays hb hP)
  have HGG := hid (fun W (hb : Below w.heap.size w W) => Nat.lt_of_lt_of_le hG hb.size)
  have CK := hid (fun W (hb : Below w.heap.size w W) => kind_impl key W (tab_on hT hG hb) (Nat.lt_of_lt_of_le hG hb.size))
  have HTB : Hid (tabB key.data.toList now next es = (secretB key.data.toList && (decide (0 ≤ now ∧ now ≤ 1000000000) && (decide (0 ≤ next ∧ next ≤ 1000000000) && (decide (es.length ≤ 8) && ncAll now next es es.length))))) := hid rfl
  rw [secret_nd] at HTB
  obtain ⟨p, c, rfl, _, _⟩ := ha
  obtain ⟨W0, hW0⟩ : ∃ W0, W0 = (w.alloc (.cells #[.string key, .int .i64 now, .int .i64 next, .slice p es.length c] 49)).alloc (.cells #[.string ⟨#[]⟩, .int .i64 0, .int .i64 0, .map none] 156) := ⟨_, rfl⟩
  have HB0 : Hid (Below w.heap.size w W0) := hid (by rw [hW0]; exact ((Below.refl _ _).alloc (Nat.le_refl _) _).alloc (by simp) _)
  have HV0 : Hid (W0.heap[w.heap.size]? = some (.cells #[.string key, .int .i64 now, .int .i64 next, .slice p es.length c] 49)) := hid (by rw [hW0]; exact heap_two_old _ _)
  have HZ0 : Hid (W0.heap[w.heap.size + 1]? = some (.cells #[.string ⟨#[]⟩, .int .i64 0, .int .i64 0, .map none] 156)) := hid (by rw [hW0]; exact heap_two_new _ _)
  have hz0 : w.heap.size + 1 < W0.heap.size := by rw [hW0]; simp
  have HW0 := hid hW0
  obtain ⟨k0, k1, k2, k3⟩ := four_cells HV0.out
  generalize tabB key.data.toList now next es = r at *
  clear hW0 hT hP hG
  by_cases hk : (nodeOf key).1 = 2
  · have hk2 : (((nodeOf key).1 : Nat) : Int) = 2 := by omega
    rw [decide_eq_true hk] at HTB
    clear hk
    generalize (nodeOf key).1 = kk at *
    cases hnb : numbB [now, next] with
    | false =>
      have HNB := hid hnb
      have HNX : Hid ((decide (0 ≤ now ∧ now ≤ 1000000000) && (decide (0 ≤ next ∧ next ≤ 1000000000) && (decide (es.length ≤ 8) && ncAll now next es es.length))) = false) := hid (numb_two_no hnb _)
      clear hnb
      go_enter Tryd.func112, Tryd.ntmps112
      go_wp2_with (go_at_call 65; rw [← HW0.out]; refine (CK.out _ HB0.out).mono ?_; rintro e w1 ⟨rfl, hb1⟩; refine Hid.out ?_)
      refine hid ?_
      have HB1 := hid (HB0.out.trans (hb1.mono HB0.out.size))
      have HV1 := hid ((hb1.block w.heap.size (by omega)).trans HV0.out)
      have HZ1 := hid ((hb1.block (w.heap.size + 1) (by omega)).trans HZ0.out)
      have hz1 := hb1.size
      clear hb1 k0 k1 k2 k3
      obtain ⟨k0, k1, k2, k3⟩ := four_cells HV1.out
      have HR1 := hid (row_two w1 now next 2)
      have hb2 : Below w1.heap.size w1 (w1.alloc (.cells #[.int .i64 now, .int .i64 next] 2)) := (Below.refl _ _).alloc (Nat.le_refl _) _
      have HB2 := hid (HB1.out.trans (hb2.mono HB1.out.size))
      have HV2 := hid ((hb2.block w.heap.size (by omega)).trans HV1.out)
      have HZ2 := hid ((hb2.block (w.heap.size + 1) (by omega)).trans HZ1.out)
      clear hb2
      go_wp2_with (go_at_call 148; refine (areNumbers_calls [now, next] (by show 2 ≤ 1048576; decide) _ _ HR1.out).mono ?_; rintro e wq ⟨rfl, eq⟩; rw [eq, HNB.out]; clear eq wq; refine Hid.out ?_)
      refine hid ?_
      clear k0 k1 k2 k3 HR1
      obtain ⟨z0, z1, z2, z3⟩ := four_cells HZ2.out
      have f0 := four_thaw HZ2.out 0
      have f1 := four_thaw HZ2.out 1
      have f2 := four_thaw HZ2.out 2
      have f3 := four_thaw HZ2.out 3
      go_wp2
      exact bodyPost_ret (v := .tuple #[.agg #[.string ⟨#[]⟩, .int .i64 0, .int .i64 0, .map none], .bool false]) (by simp [results, Tryd.results112, go_sem, z0, z1, z2, z3]) rfl ⟨below_four HB2.out (Nat.le_succ _) _ _ _ _, Or.inl ⟨by rw [HTB.out]; rw [HNX.out]; rfl, rfl⟩⟩
    | true =>
      have HNB := hid hnb
      have hnn := numb_two hnb
      rw [decide_eq_true hnn.1, decide_eq_true hnn.2, Bool.true_and, Bool.true_and, Bool.true_and] at HTB
      clear hnb
      by_cases h8 : es.length ≤ 8
      · have d8 : ¬ (es.length : Int) > 8 := by omega
        rw [decide_eq_true h8, Bool.true_and] at HTB
        obtain ⟨⟨hnow0, hnow1⟩, hnext0, hnext1⟩ := hnn
        go_enter Tryd.func112, Tryd.ntmps112
        go_wp2_with (go_at_call 65; rw [← HW0.out]; refine (CK.out _ HB0.out).mono ?_; rintro e w1 ⟨rfl, hb1⟩; refine Hid.out ?_)
        refine hid ?_
        have HB1 := hid (HB0.out.trans (hb1.mono HB0.out.size))
        have HV1 := hid ((hb1.block w.heap.size (by omega)).trans HV0.out)
        have HZ1 := hid ((hb1.block (w.heap.size + 1) (by omega)).trans HZ0.out)
        have hz1 := hb1.size
        clear hb1 k0 k1 k2 k3
        obtain ⟨k0, k1, k2, k3⟩ := four_cells HV1.out
        have HR1 := hid (row_two w1 now next 2)
        have hb2 : Below w1.heap.size w1 (w1.alloc (.cells #[.int .i64 now, .int .i64 next] 2)) := (Below.refl _ _).alloc (Nat.le_refl _) _
        have HB2 := hid (HB1.out.trans (hb2.mono HB1.out.size))
        have HV2 := hid ((hb2.block w.heap.size (by omega)).trans HV1.out)
        have HZ2 := hid ((hb2.block (w.heap.size + 1) (by omega)).trans HZ1.out)
        clear hb2
        go_wp2_with (go_at_call 148; refine (areNumbers_calls [now, next] (by show 2 ≤ 1048576; decide) _ _ HR1.out).mono ?_; rintro e wq ⟨rfl, eq⟩; rw [eq, HNB.out]; clear eq wq; refine Hid.out ?_)
        refine hid ?_
        clear k0 k1 k2 k3 HR1
        have HS : Hid ((w1.alloc (.cells #[.int .i64 now, .int .i64 next] 2)).heap.size = w1.heap.size + 1) := hid (by simp)
        obtain ⟨w2, hw2⟩ : ∃ w2, w2 = w1.alloc (.cells #[.int .i64 now, .int .i64 next] 2) := ⟨_, rfl⟩
        rw [← hw2] at HB2 HV2 HZ2 HS
        rw [← hw2]
        have hz2 : w.heap.size + 1 < w2.heap.size := by rw [HS.out]; omega
        obtain ⟨k0, k1, k2, k3⟩ := four_cells HV2.out
        clear hw2 HS
        obtain ⟨W5, hW5⟩ : ∃ W5, W5 = ((w2.alloc (.map #[] 0)).alloc (.cells #[.string key, .int .i64 now, .int .i64 next, .map (some w2.heap.size)] 156)).alloc (.cells #[.int .i64 (-1), .int .i64 0] 151) := ⟨_, rfl⟩
        have hb5 : Below w2.heap.size w2 W5 := by rw [hW5]; exact (((Below.refl _ _).alloc (Nat.le_refl _) _).alloc (by simp) _).alloc (by simp; omega) _
        have hz5 : W5.heap.size = w2.heap.size + 3 := by rw [hW5]; simp
        have HB5 := hid (HB2.out.trans (hb5.mono HB2.out.size))
        have HV5 := hid ((hb5.block w.heap.size (by omega)).trans HV2.out)
        have HZ5 := hid ((hb5.block (w.heap.size + 1) (by omega)).trans HZ2.out)
        have HBK5 : Hid (W5.heap[w2.heap.size + 1]? = some (.cells #[.string key, .int .i64 now, .int .i64 next, .map (some w2.heap.size)] 156)) := hid (by
          rw [hW5, (((Below.refl _ ((w2.alloc (.map #[] 0)).alloc (.cells #[.string key, .int .i64 now, .int .i64 next, .map (some w2.heap.size)] 156))).alloc (Nat.le_refl _) _).block _ (by simp))]
          have h := heap_alloc_new (w2.alloc (.map #[] 0)) (.cells #[.string key, .int .i64 now, .int .i64 next, .map (some w2.heap.size)] 156)
          simpa using h)
        have HLS5 : Hid (W5.heap[w2.heap.size + 1 + 1]? = some (.cells #[.int .i64 (lastN es 0).x0, .int .i64 (lastN es 0).x1] 151)) := hid (by
          rw [hW5, lastN_zero]
          have h := heap_alloc_new ((w2.alloc (.map #[] 0)).alloc (.cells #[.string key, .int .i64 now, .int .i64 next, .map (some w2.heap.size)] 156)) (.cells #[.int .i64 (-1), .int .i64 0] 151)
          simpa using h)
        have HO5 : Hid (W5.ownsMap Tryd.prog 9 (ncElem (H := H)) w2.heap.size 0 (tabD key.data.toList (es.take 0))) := hid (by
          rw [hW5]
          exact (((World.ownsMap_made w2 _ _ _).alloc _).alloc _))
        obtain ⟨m0, m1, m2, m3⟩ := four_cells HV5.out
        have HZ5S : Hid (w2.heap.size + 1 + 1 < W5.heap.size) := hid (by omega)
        rw [hW5] at m0 m1 m2 m3 HB5 HV5 HZ5 HBK5 HLS5 HO5 HZ5S
        clear hb5 hz5 hW5
        go_wp2
        go_loopw [40] (fun iv wr => ∃ i : Nat, i ≤ es.length ∧ iv = .int .i64 i ∧ Below w.heap.size w wr ∧ wr.heap[w.heap.size]? = some (.cells #[.string key, .int .i64 now, .int .i64 next, .slice p es.length c] 49) ∧ wr.heap[w.heap.size + 1]? = some (.cells #[.string ⟨#[]⟩, .int .i64 0, .int .i64 0, .map none] 156) ∧ wr.ownsMap Tryd.prog 9 (ncElem (H := H)) w2.heap.size i (tabD key.data.toList (es.take i)) ∧ wr.heap[w2.heap.size + 1]? = some (.cells #[.string key, .int .i64 now, .int .i64 next, .map (some w2.heap.size)] 156) ∧ wr.heap[w2.heap.size + 1 + 1]? = some (.cells #[.int .i64 (lastN es i).x0, .int .i64 (lastN es i).x1] 151) ∧ ncAll now next es i = true ∧ w2.heap.size + 1 + 1 < wr.heap.size) (fun iv _ => es.length - (RowKit.intOf iv).toNat)
        case atStart => exact ⟨0, Nat.zero_le _, rfl, HB5.out, HV5.out, HZ5.out, HO5.out, HBK5.out, HLS5.out, rfl, HZ5S.out⟩
        case round =>
          clear k0 k1 k2 k3 m0 m1 m2 m3 HB5 HV5 HZ5 HO5 HBK5 HLS5 HZ5S
          obtain ⟨i, hi, rfl, hbel, hbox, hzb, hown, hbk, hls, hall, hzr⟩ := hrel
          have HB := hid hbel
          have HX := hid hbox
          have HZ := hid hzb
          have HO := hid hown
          have HBK := hid hbk
          have HLS := hid hls
          have HALL := hid hall
          have hzw : w.heap.size + 1 < wr.heap.size := by omega
          by_cases hlt : i < es.length
          · have hne : es ≠ [] := fun h => by rw [h] at hlt; cases hlt
            obtain ⟨p', c', hv, _, hp⟩ := HA.out
            obtain ⟨rfl, rfl⟩ : p = p' ∧ c = c' := by injection hv with h1 h2 h3; exact ⟨h1, by omega⟩
            obtain ⟨g, o, rfl, hg, hc⟩ := hp hne
            clear hv hp
            have b1 : (0 : Int) ≤ (i : Int) := by omega
            have b2 : (i : Int) < (es.length : Int) := by omega
            have hgw : g < wr.heap.size := Nat.lt_of_lt_of_le hg hbel.size
            have l0 : wr.cell? ⟨g, o + i * 2, none⟩ = some (.int .i64 es[i].x0) := (hbel.cell (p := ⟨g, o + i * 2, none⟩) hg).trans (hc i hlt 0 (by decide))
            have l1 : wr.cell? ⟨g, o + i * 2 + 1, none⟩ = some (.int .i64 es[i].x1) := (hbel.cell (p := ⟨g, o + i * 2 + 1, none⟩) hg).trans (hc i hlt 1 (by decide))
            have HGD := hid (nc_follow hlt hall)
            have HLN := hid (lastN_succ hlt)
            have HTK : Hid (tabD (H := H) key.data.toList (es.take (i + 1)) = (tabD key.data.toList (es.take i)).put (.string (ncL key.data.toList es[i].x0)) (.agg [.lit (.int .i64 es[i].x0), .lit (.int .i64 es[i].x1)])) := hid (by rw [List.take_succ_eq_append_getElem hlt, tabD_snoc])
            clear hc hbel hbox hzb hown hbk hls hall
            generalize hei : es[i] = ei at *
            obtain ⟨x, y⟩ := ei
            clear hei
            dsimp only at *
            generalize hlu : lastN es i = lu at *
            obtain ⟨u, v⟩ := lu
            clear hlu
            dsimp only at *
            have CF := hid (fun W => follows_calls x y u v W)
            obtain ⟨W6, hW6⟩ : ∃ W6, W6 = wr.alloc (.cells #[.int .i64 x, .int .i64 y] 151) := ⟨_, rfl⟩
            have hb6 : Below wr.heap.size wr W6 := by rw [hW6]; exact (Below.refl _ _).alloc (Nat.le_refl _) _
            have HN6 : Hid (W6.heap[wr.heap.size]? = some (.cells #[.int .i64 x, .int .i64 y] 151)) := hid (by rw [hW6]; exact heap_alloc_new _ _)
            have hz6 : wr.heap.size < W6.heap.size := by rw [hW6]; simp
            have HB6 := hid (HB.out.trans (hb6.mono HB.out.size))
            have HX6 := hid ((hb6.block _ (by omega)).trans HX.out)
            have HZ6 := hid ((hb6.block _ hzw).trans HZ.out)
            have HBK6 := hid ((hb6.block _ (by omega)).trans HBK.out)
            have HLS6 := hid ((hb6.block _ hzr).trans HLS.out)
            have HO6 := hid (HO.out.kept (grown_below (row := none) hb6) (by simp))
            have HW6 := hid hW6
            have j0 := (cell_of_row _ _ 0 _ _ _ HLS6.out).trans rfl
            have j1 := (cell_of_row _ _ 1 _ _ _ HLS6.out).trans rfl
            rw [hW6] at j0 j1
            clear hb6 hW6 HB HX HZ HBK HLS HO
            by_cases t1 : u < x ∧ v ≤ y
            · have HT1 := hid t1
              rw [decide_eq_true t1] at CF
              clear t1
              by_cases t2 : x < next
              · have t2' : ¬ x ≥ next := by omega
                by_cases t3 : y ≤ now
                · have t3' : ¬ y > now := by omega
                  have HGB : Hid (ncGood now next es i = true) := hid (by rw [HGD.out]; exact decide_eq_true ⟨HT1.out, t2, t3⟩)
                  clear HGD HT1
                  go_wp2_with (go_at_call 149; rw [← HW6.out]; refine (CF.out _).mono ?_; rintro e w7 ⟨rfl, hb7⟩; refine Hid.out ?_)
                  refine hid ?_
                  have HB7 := hid (HB6.out.trans (hb7.mono HB6.out.size))
                  have HX7 := hid ((hb7.block _ (by omega)).trans HX6.out)
                  have HZ7 := hid ((hb7.block _ (by omega)).trans HZ6.out)
                  have HN7 := hid ((hb7.block _ hz6).trans HN6.out)
                  have hz7 := hb7.size
                  have HBK7 := hid ((hb7.block _ (by omega)).trans HBK6.out)
                  have HLS7 := hid ((hb7.block _ (by omega)).trans HLS6.out)
                  have HO7 := hid (HO6.out.kept (grown_below (row := none) hb7) (by simp))
                  clear hb7 j0 j1
                  obtain ⟨k0, k1, k2, k3⟩ := four_cells HX7.out
                  have n0 := (cell_of_row _ _ 0 _ _ _ HN7.out).trans rfl
                  have n1 := (cell_of_row _ _ 1 _ _ _ HN7.out).trans rfl
                  obtain ⟨q0, q1, q2, q3⟩ := four_cells HBK7.out
                  have CP := hid (put_calls key (.int .i64 now) (.int .i64 next) w2.heap.size i _ x y w7 (HT.out _ HB7.out) (HGG.out _ HB7.out) (HP.out _ HB7.out) HO7.out (by omega))
                  go_wp2_with (go_at_call 150; refine CP.out.mono ?_; rintro e w8 ⟨rfl, ho8, hg8⟩; refine Hid.out ?_)
                  refine hid ?_
                  have HB8 := hid (HB7.out.grown hg8 HB7.out.size (fun k hk => by cases hk; omega))
                  have HX8 := hid ((hg8.block w.heap.size (by omega) (fun e => by have := Option.some.inj e; omega)).trans HX7.out)
                  have HZ8 := hid ((hg8.block (w.heap.size + 1) (by omega) (fun e => by have := Option.some.inj e; omega)).trans HZ7.out)
                  have HN8 := hid ((hg8.block wr.heap.size (by omega) (fun e => by have := Option.some.inj e; omega)).trans HN7.out)
                  have HBK8 := hid ((hg8.block (w2.heap.size + 1) (by omega) (fun e => by have := Option.some.inj e; omega)).trans HBK7.out)
                  have HLS8 := hid ((hg8.block (w2.heap.size + 1 + 1) (by omega) (fun e => by have := Option.some.inj e; omega)).trans HLS7.out)
                  have HO8 := hid ho8
                  have hz8 := hg8.size
                  clear ho8 hg8 n0 n1 q0 q1 q2 q3 k0 k1 k2 k3
                  have n0 := (cell_of_row _ _ 0 _ _ _ HN8.out).trans rfl
                  have n1 := (cell_of_row _ _ 1 _ _ _ HN8.out).trans rfl
                  have j0 := (cell_of_row _ _ 0 _ _ _ HLS8.out).trans rfl
                  have j1 := (cell_of_row _ _ 1 _ _ _ HLS8.out).trans rfl
                  have e0 := four_thaw HLS8.out 0
                  have e1 := four_thaw HLS8.out 1
                  have hb9 := ((Below.refl (w2.heap.size + 1 + 1) w8).setCell (p := ⟨w2.heap.size + 1 + 1, 0, none⟩) (Nat.le_refl _) (.int .i64 x)).setCell (p := ⟨w2.heap.size + 1 + 1, 1, none⟩) (Nat.le_refl _) (.int .i64 y)
                  have HB9 := hid ((HB8.out.setCell (p := ⟨w2.heap.size + 1 + 1, 0, none⟩) (by show w.heap.size ≤ w2.heap.size + 1 + 1; omega) (.int .i64 x)).setCell (p := ⟨w2.heap.size + 1 + 1, 1, none⟩) (by show w.heap.size ≤ w2.heap.size + 1 + 1; omega) (.int .i64 y))
                  have HX9 := hid ((hb9.block w.heap.size (by omega)).trans HX8.out)
                  have HZ9 := hid ((hb9.block (w.heap.size + 1) (by omega)).trans HZ8.out)
                  have HBK9 := hid ((hb9.block (w2.heap.size + 1) (by omega)).trans HBK8.out)
                  have HLS9 := hid (heap_setCell_same _ (w2.heap.size + 1 + 1) 1 _ _ (.int .i64 y) (heap_setCell_same w8 (w2.heap.size + 1 + 1) 0 _ _ (.int .i64 x) HLS8.out))
                  have HO9 := hid ((HO8.out.setCell (a := ⟨w2.heap.size + 1 + 1, 0, none⟩) (by show w2.heap.size ≠ w2.heap.size + 1 + 1; omega) (.int .i64 x)).setCell (a := ⟨w2.heap.size + 1 + 1, 1, none⟩) (by show w2.heap.size ≠ w2.heap.size + 1 + 1; omega) (.int .i64 y))
                  have HS9 := hid hb9.size
                  clear hb9
                  go_wp2
                  go_roundw
                  case rel => exact ⟨i + 1, by omega, by go_num, HB9.out, HX9.out, HZ9.out, by rw [HTK.out]; exact HO9.out, HBK9.out, by rw [HLN.out]; exact HLS9.out, by rw [ncAll_succ, HALL.out, HGB.out]; rfl, Nat.lt_of_lt_of_le (by omega) HS9.out⟩
                  case measure => simp [RowKit.intOf]; omega
                · have t3' : y > now := by omega
                  have HGB : Hid (ncGood now next es i = false) := hid (by rw [HGD.out]; exact decide_eq_false (fun h => t3 h.2.2))
                  clear HGD HT1 t3
                  go_wp2_with (go_at_call 149; rw [← HW6.out]; refine (CF.out _).mono ?_; rintro e w7 ⟨rfl, hb7⟩; refine Hid.out ?_)
                  refine hid ?_
                  have HB7 := hid (HB6.out.trans (hb7.mono HB6.out.size))
                  have HX7 := hid ((hb7.block _ (by omega)).trans HX6.out)
                  have HZ7 := hid ((hb7.block _ (by omega)).trans HZ6.out)
                  have HN7 := hid ((hb7.block _ hz6).trans HN6.out)
                  have hz7 := hb7.size
                  clear hb7 j0 j1
                  obtain ⟨k0, k1, k2, k3⟩ := four_cells HX7.out
                  obtain ⟨z0, z1, z2, z3⟩ := four_cells HZ7.out
                  have n0 := (cell_of_row _ _ 0 _ _ _ HN7.out).trans rfl
                  have n1 := (cell_of_row _ _ 1 _ _ _ HN7.out).trans rfl
                  have f0 := four_thaw HZ7.out 0
                  have f1 := four_thaw HZ7.out 1
                  have f2 := four_thaw HZ7.out 2
                  have f3 := four_thaw HZ7.out 3
                  go_wp2
                  exact bodyPost_ret (v := .tuple #[.agg #[.string ⟨#[]⟩, .int .i64 0, .int .i64 0, .map none], .bool false]) (by simp [results, Tryd.results112, go_sem, z0, z1, z2, z3]) rfl ⟨below_four HB7.out (Nat.le_succ _) _ _ _ _, Or.inl ⟨by rw [HTB.out, ncAll_no HGB.out hlt], rfl⟩⟩
              · have t2' : x ≥ next := by omega
                have HGB : Hid (ncGood now next es i = false) := hid (by rw [HGD.out]; exact decide_eq_false (fun h => t2 h.2.1))
                clear HGD HT1 t2
                go_wp2_with (go_at_call 149; rw [← HW6.out]; refine (CF.out _).mono ?_; rintro e w7 ⟨rfl, hb7⟩; refine Hid.out ?_)
                refine hid ?_
                have HB7 := hid (HB6.out.trans (hb7.mono HB6.out.size))
                have HX7 := hid ((hb7.block _ (by omega)).trans HX6.out)
                have HZ7 := hid ((hb7.block _ (by omega)).trans HZ6.out)
                have HN7 := hid ((hb7.block _ hz6).trans HN6.out)
                have hz7 := hb7.size
                clear hb7 j0 j1
                obtain ⟨k0, k1, k2, k3⟩ := four_cells HX7.out
                obtain ⟨z0, z1, z2, z3⟩ := four_cells HZ7.out
                have n0 := (cell_of_row _ _ 0 _ _ _ HN7.out).trans rfl
                have n1 := (cell_of_row _ _ 1 _ _ _ HN7.out).trans rfl
                have f0 := four_thaw HZ7.out 0
                have f1 := four_thaw HZ7.out 1
                have f2 := four_thaw HZ7.out 2
                have f3 := four_thaw HZ7.out 3
                go_wp2
                exact bodyPost_ret (v := .tuple #[.agg #[.string ⟨#[]⟩, .int .i64 0, .int .i64 0, .map none], .bool false]) (by simp [results, Tryd.results112, go_sem, z0, z1, z2, z3]) rfl ⟨below_four HB7.out (Nat.le_succ _) _ _ _ _, Or.inl ⟨by rw [HTB.out, ncAll_no HGB.out hlt], rfl⟩⟩
            · have HGB : Hid (ncGood now next es i = false) := hid (by rw [HGD.out]; exact decide_eq_false (fun h => t1 h.1))
              rw [decide_eq_false t1] at CF
              clear HGD t1
              go_wp2_with (go_at_call 149; rw [← HW6.out]; refine (CF.out _).mono ?_; rintro e w7 ⟨rfl, hb7⟩; refine Hid.out ?_)
              refine hid ?_
              have HB7 := hid (HB6.out.trans (hb7.mono HB6.out.size))
              have HX7 := hid ((hb7.block _ (by omega)).trans HX6.out)
              have HZ7 := hid ((hb7.block _ (by omega)).trans HZ6.out)
              have HN7 := hid ((hb7.block _ hz6).trans HN6.out)
              have hz7 := hb7.size
              clear hb7 j0 j1
              obtain ⟨k0, k1, k2, k3⟩ := four_cells HX7.out
              obtain ⟨z0, z1, z2, z3⟩ := four_cells HZ7.out
              have n0 := (cell_of_row _ _ 0 _ _ _ HN7.out).trans rfl
              have n1 := (cell_of_row _ _ 1 _ _ _ HN7.out).trans rfl
              have f0 := four_thaw HZ7.out 0
              have f1 := four_thaw HZ7.out 1
              have f2 := four_thaw HZ7.out 2
              have f3 := four_thaw HZ7.out 3
              go_wp2
              exact bodyPost_ret (v := .tuple #[.agg #[.string ⟨#[]⟩, .int .i64 0, .int .i64 0, .map none], .bool false]) (by simp [results, Tryd.results112, go_sem, z0, z1, z2, z3]) rfl ⟨below_four HB7.out (Nat.le_succ _) _ _ _ _, Or.inl ⟨by rw [HTB.out, ncAll_no HGB.out hlt], rfl⟩⟩
          · have hie : i = es.length := by omega
            subst hie
            obtain ⟨k0, k1, k2, k3⟩ := four_cells hbk
            obtain ⟨z0, z1, z2, z3⟩ := four_cells hzb
            have f0 := four_thaw hzb 0
            have f1 := four_thaw hzb 1
            have f2 := four_thaw hzb 2
            have f3 := four_thaw hzb 3
            have HTL : Hid (tabD (H := H) key.data.toList (es.take es.length) = tabD key.data.toList es) := hid (by rw [List.take_length])
            clear hbel hbox hzb hown hbk hls hall
            go_wp2
            refine bodyPost_ret (v := .tuple #[.agg #[.string key, .int .i64 now, .int .i64 next, .map (some w2.heap.size)], .bool true]) (by simp [results, Tryd.results112, go_sem, z0, z1, z2, z3]) rfl ⟨below_four HB.out (Nat.le_succ _) _ _ _ _, Or.inr ⟨HTB.out.trans HALL.out, w2.heap.size, rfl, by omega, ?_⟩⟩
            rw [← HTL.out]
            exact (((HO.out.setCell (by show w2.heap.size ≠ w.heap.size + 1; omega) _).setCell (by show w2.heap.size ≠ w.heap.size + 1; omega) _).setCell (by show w2.heap.size ≠ w.heap.size + 1; omega) _).setCell (by show w2.heap.size ≠ w.heap.size + 1; omega) _
      · have d8 : (es.length : Int) > 8 := by omega
        rw [decide_eq_false h8, Bool.false_and] at HTB
        clear hnn h8
        go_enter Tryd.func112, Tryd.ntmps112
        go_wp2_with (go_at_call 65; rw [← HW0.out]; refine (CK.out _ HB0.out).mono ?_; rintro e w1 ⟨rfl, hb1⟩; refine Hid.out ?_)
        refine hid ?_
        have HB1 := hid (HB0.out.trans (hb1.mono HB0.out.size))
        have HV1 := hid ((hb1.block w.heap.size (by omega)).trans HV0.out)
        have HZ1 := hid ((hb1.block (w.heap.size + 1) (by omega)).trans HZ0.out)
        have hz1 := hb1.size
        clear hb1 k0 k1 k2 k3
        obtain ⟨k0, k1, k2, k3⟩ := four_cells HV1.out
        have HR1 := hid (row_two w1 now next 2)
        have hb2 : Below w1.heap.size w1 (w1.alloc (.cells #[.int .i64 now, .int .i64 next] 2)) := (Below.refl _ _).alloc (Nat.le_refl _) _
        have HB2 := hid (HB1.out.trans (hb2.mono HB1.out.size))
        have HV2 := hid ((hb2.block w.heap.size (by omega)).trans HV1.out)
        have HZ2 := hid ((hb2.block (w.heap.size + 1) (by omega)).trans HZ1.out)
        clear hb2
        go_wp2_with (go_at_call 148; refine (areNumbers_calls [now, next] (by show 2 ≤ 1048576; decide) _ _ HR1.out).mono ?_; rintro e wq ⟨rfl, eq⟩; rw [eq, HNB.out]; clear eq wq; refine Hid.out ?_)
        refine hid ?_
        clear k0 k1 k2 k3 HR1
        obtain ⟨k0, k1, k2, k3⟩ := four_cells HV2.out
        obtain ⟨z0, z1, z2, z3⟩ := four_cells HZ2.out
        have f0 := four_thaw HZ2.out 0
        have f1 := four_thaw HZ2.out 1
        have f2 := four_thaw HZ2.out 2
        have f3 := four_thaw HZ2.out 3
        go_wp2
        exact bodyPost_ret (v := .tuple #[.agg #[.string ⟨#[]⟩, .int .i64 0, .int .i64 0, .map none], .bool false]) (by simp [results, Tryd.results112, go_sem, z0, z1, z2, z3]) rfl ⟨below_four HB2.out (Nat.le_succ _) _ _ _ _, Or.inl ⟨HTB.out, rfl⟩⟩
  · have hk2 : ¬ (((nodeOf key).1 : Nat) : Int) = 2 := by omega
    rw [decide_eq_false hk, Bool.false_and] at HTB
    clear hk
    generalize (nodeOf key).1 = kk at *
    go_enter Tryd.func112, Tryd.ntmps112
    go_wp2_with (go_at_call 65; rw [← HW0.out]; refine (CK.out _ HB0.out).mono ?_; rintro e w1 ⟨rfl, hb1⟩; refine Hid.out ?_)
    refine hid ?_
    have HB1 := hid (HB0.out.trans (hb1.mono HB0.out.size))
    have HV1 := hid ((hb1.block w.heap.size (by omega)).trans HV0.out)
    have HZ1 := hid ((hb1.block (w.heap.size + 1) (by omega)).trans HZ0.out)
    have hz1 := hb1.size
    clear hb1 k0 k1 k2 k3
    obtain ⟨z0, z1, z2, z3⟩ := four_cells HZ1.out
    have f0 := four_thaw HZ1.out 0
    have f1 := four_thaw HZ1.out 1
    have f2 := four_thaw HZ1.out 2
    have f3 := four_thaw HZ1.out 3
    go_wp2
    exact bodyPost_ret (v := .tuple #[.agg #[.string ⟨#[]⟩, .int .i64 0, .int .i64 0, .map none], .bool false]) (by simp [results, Tryd.results112, go_sem, z0, z1, z2, z3]) rfl ⟨below_four HB1.out (Nat.le_succ _) _ _ _ _, Or.inl ⟨HTB.out, rfl⟩⟩
end Go.Proofs.YtkpieeakiolomaaDoor

namespace Go.Proofs.YtkpieeakiolomaaDoor
open Go.RowKit
open Go.Lib (hid)

theorem below_drewN2 {B : Nat} {a w : World} (h : Below B a w) (n : Nat) : Below B a (w.drewN n) := ⟨h.os, h.tape, h.output, h.size, h.block⟩

set_option maxRecDepth 20000 in
set_option maxHeartbeats 4000000 in
theorem tab_spec (key : ByteArray) (now next : Int) (es : List NonceD) (hn : es.length ≤ 1048576) (a : Value) (w : World) (ha : FRow encNonce 2 w a es) :
    Calls Tryd.prog 61 #[.agg #[.string key, .int .i64 now, .int .i64 next, a]] w fun e w' => e = .returned (.bool (tabB key.data.toList now next es)) ∧ Below w.heap.size w w' := by
  have HA := hid ha
  obtain ⟨p, c, rfl, _, hrest⟩ := ha
  clear hrest
  obtain ⟨W0, hW0⟩ : ∃ W0, W0 = w.alloc (.cells #[.string key, .int .i64 now, .int .i64 next, .slice p es.length c] 49) := ⟨_, rfl⟩
  have HB0 : Hid (Below w.heap.size w W0) := hid (by rw [hW0]; exact (Below.refl _ _).alloc (Nat.le_refl _) _)
  have HV0 : Hid (W0.heap[w.heap.size]? = some (.cells #[.string key, .int .i64 now, .int .i64 next, .slice p es.length c] 49)) := hid (by rw [hW0]; exact heap_alloc_new _ _)
  have hz0 : w.heap.size < W0.heap.size := by rw [hW0]; simp
  have HW0 := hid hW0
  have HTB : Hid (tabB key.data.toList now next es = (secretB key.data.toList && (decide (0 ≤ now ∧ now ≤ 1000000000) && (decide (0 ≤ next ∧ next ≤ 1000000000) && (decide (es.length ≤ 8) && ncAll now next es es.length))))) := hid rfl
  have CS := hid (fun W => ssecret_calls key W)
  have C1 := hid (fun W => in_any now 0 1000000000 W)
  have C2 := hid (fun W => in_any next 0 1000000000 W)
  obtain ⟨k0, k1, k2, k3⟩ := four_cells HV0.out
  generalize tabB key.data.toList now next es = r at *
  clear hW0
  cases hs : secretB key.data.toList with
  | false =>
    have HS := hid hs
    rw [hs] at HTB
    clear hs
    go_enter Tryd.func61, Tryd.ntmps61
    go_wp2_with (go_at_call 59; rw [← HW0.out]; refine (CS.out _).mono ?_; rintro e wq ⟨rfl, eq⟩; rw [eq, HS.out]; clear eq wq; refine Hid.out ?_)
    refine hid ?_
    go_wp2
    go_ret
    exact ⟨by rw [HTB.out]; rfl, HB0.out⟩
  | true =>
    have HS := hid hs
    rw [hs] at HTB
    clear hs
    cases hd1 : decide (0 ≤ now ∧ now ≤ 1000000000) with
    | false =>
      have HD1 := hid hd1
      rw [hd1] at HTB
      clear hd1
      go_enter Tryd.func61, Tryd.ntmps61
      go_wp2_with (go_at_call 59; rw [← HW0.out]; refine (CS.out _).mono ?_; rintro e wq ⟨rfl, eq⟩; rw [eq, HS.out]; clear eq wq; refine Hid.out ?_)
      refine hid ?_
      go_wp2_with (go_at_call 108; refine (C1.out _).mono ?_; rintro e wq ⟨rfl, eq⟩; rw [eq, HD1.out]; clear eq wq; refine Hid.out ?_)
      refine hid ?_
      go_wp2
      go_ret
      exact ⟨by rw [HTB.out]; rfl, HB0.out⟩
    | true =>
      have hnow := of_decide_eq_true hd1
      have HD1 := hid hd1
      rw [hd1] at HTB
      clear hd1
      cases hd2 : decide (0 ≤ next ∧ next ≤ 1000000000) with
      | false =>
        have HD2 := hid hd2
        rw [hd2] at HTB
        clear hd2 hnow
        go_enter Tryd.func61, Tryd.ntmps61
        go_wp2_with (go_at_call 59; rw [← HW0.out]; refine (CS.out _).mono ?_; rintro e wq ⟨rfl, eq⟩; rw [eq, HS.out]; clear eq wq; refine Hid.out ?_)
        refine hid ?_
        go_wp2_with (go_at_call 108; refine (C1.out _).mono ?_; rintro e wq ⟨rfl, eq⟩; rw [eq, HD1.out]; clear eq wq; refine Hid.out ?_)
        refine hid ?_
        go_wp2_with (go_at_call 108; refine (C2.out _).mono ?_; rintro e wq ⟨rfl, eq⟩; rw [eq, HD2.out]; clear eq wq; refine Hid.out ?_)
        refine hid ?_
        go_wp2
        go_ret
        exact ⟨by rw [HTB.out]; rfl, HB0.out⟩
      | true =>
        have hnext := of_decide_eq_true hd2
        have HD2 := hid hd2
        rw [hd2] at HTB
        clear hd2
        by_cases h8 : es.length ≤ 8
        · have d8 : ¬ (es.length : Int) > 8 := by omega
          rw [decide_eq_true h8] at HTB
          obtain ⟨hnow0, hnow1⟩ := hnow
          obtain ⟨hnext0, hnext1⟩ := hnext
          go_enter Tryd.func61, Tryd.ntmps61
          go_wp2_with (go_at_call 59; rw [← HW0.out]; refine (CS.out _).mono ?_; rintro e wq ⟨rfl, eq⟩; rw [eq, HS.out]; clear eq wq; refine Hid.out ?_)
          refine hid ?_
          go_wp2_with (go_at_call 108; refine (C1.out _).mono ?_; rintro e wq ⟨rfl, eq⟩; rw [eq, HD1.out]; clear eq wq; refine Hid.out ?_)
          refine hid ?_
          go_wp2_with (go_at_call 108; refine (C2.out _).mono ?_; rintro e wq ⟨rfl, eq⟩; rw [eq, HD2.out]; clear eq wq; refine Hid.out ?_)
          refine hid ?_
          go_wp2
          go_loopw [3] (fun iv wr => ∃ i : Nat, i ≤ es.length ∧ iv = .int .i64 i ∧ Below w.heap.size w wr ∧ wr.heap[w.heap.size]? = some (.cells #[.string key, .int .i64 now, .int .i64 next, .slice p es.length c] 49) ∧ ncAll now next es i = true) (fun iv _ => es.length - (RowKit.intOf iv).toNat)
          case atStart => exact ⟨0, Nat.zero_le _, rfl, HB0.out, HV0.out, rfl⟩
          case round =>
            clear k0 k1 k2 k3
            obtain ⟨i, hi, rfl, hbel, hbox, hall⟩ := hrel
            have HB := hid hbel
            have HX := hid hbox
            have HALL := hid hall
            obtain ⟨k0, k1, k2, k3⟩ := four_cells hbox
            have hzr : w.heap.size < wr.heap.size := (Array.getElem?_eq_some_iff.1 hbox).1
            by_cases hlt : i < es.length
            · have hne : es ≠ [] := fun h => by rw [h] at hlt; cases hlt
              obtain ⟨p', c', hv, _, hp⟩ := HA.out
              obtain ⟨rfl, rfl⟩ : p = p' ∧ c = c' := by injection hv with h1 h2 h3; exact ⟨h1, by omega⟩
              obtain ⟨g, o, rfl, hg, hc⟩ := hp hne
              clear hv hp
              have b1 : (0 : Int) ≤ (i : Int) := by omega
              have b2 : (i : Int) < (es.length : Int) := by omega
              have hgw : g < wr.heap.size := Nat.lt_of_lt_of_le hg hbel.size
              have l0 : wr.cell? ⟨g, o + i * 2, none⟩ = some (.int .i64 es[i].x0) := (hbel.cell (p := ⟨g, o + i * 2, none⟩) hg).trans (hc i hlt 0 (by decide))
              have l1 : wr.cell? ⟨g, o + i * 2 + 1, none⟩ = some (.int .i64 es[i].x1) := (hbel.cell (p := ⟨g, o + i * 2 + 1, none⟩) hg).trans (hc i hlt 1 (by decide))
              have HGD : Hid (ncGood now next es i = decide ((0 ≤ es[i].x0 ∧ es[i].x0 ≤ next - 1) ∧ (0 ≤ es[i].x1 ∧ es[i].x1 ≤ now) ∧ (0 < i → (es.getD (i - 1) zNonce).x0 < es[i].x0 ∧ (es.getD (i - 1) zNonce).x1 ≤ es[i].x1))) := hid (by unfold ncGood; rw [nc_at hlt])
              have HPV := hid (fun (j : Nat) (hj : j < es.length) => (show wr.cell? ⟨g, o + j * 2, none⟩ = some (.int .i64 es[j].x0) ∧ wr.cell? ⟨g, o + j * 2 + 1, none⟩ = some (.int .i64 es[j].x1) from ⟨(hbel.cell (p := ⟨g, o + j * 2, none⟩) hg).trans (hc j hj 0 (by decide)), (hbel.cell (p := ⟨g, o + j * 2 + 1, none⟩) hg).trans (hc j hj 1 (by decide))⟩))
              clear hc hbel hbox hall
              generalize hei : es[i] = ei at *
              obtain ⟨x, y⟩ := ei
              clear hei
              dsimp only at *
              have CX := hid (fun W => in_any x 0 (next - 1) W)
              have CY := hid (fun W => in_any y 0 now W)
              have HBX : Hid (Below w.heap.size w (wr.alloc (.cells #[.int .i64 x, .int .i64 y] 151))) := hid (HB.out.alloc HB.out.size _)
              have HXX : Hid ((wr.alloc (.cells #[.int .i64 x, .int .i64 y] 151)).heap[w.heap.size]? = some (.cells #[.string key, .int .i64 now, .int .i64 next, .slice (some ⟨g, o, none⟩) es.length c] 49)) := hid ((((Below.refl wr.heap.size wr).alloc (Nat.le_refl _) _).block _ hzr).trans HX.out)
              by_cases t1 : 0 ≤ x ∧ x ≤ next - 1
              · rw [decide_eq_true t1] at CX
                by_cases t2 : 0 ≤ y ∧ y ≤ now
                · rw [decide_eq_true t2] at CY
                  cases i with
                  | zero =>
                    have l0' : wr.cell? ⟨g, o, none⟩ = some (.int .i64 x) := by simpa using l0
                    have l1' : wr.cell? ⟨g, o + 1, none⟩ = some (.int .i64 y) := by simpa using l1
                    have HGB : Hid (ncGood now next es 0 = true) := hid (by rw [HGD.out]; exact decide_eq_true ⟨t1, t2, fun h => absurd h (Nat.lt_irrefl _)⟩)
                    clear t1 t2 HPV HGD
                    go_wp2
                    go_quiet ((first | (go_at_call_of 108 (Value.int .i64 x); exact Calls.quiet_of_same (CX.out _)) | (go_at_call_of 108 (Value.int .i64 y); exact Calls.quiet_of_same (CY.out _))))
                    have hbd := below_drewN2 HBX.out nq
                    go_wp2
                    go_roundw
                    case rel => exact ⟨0 + 1, by omega, by go_num, hbd, HXX.out, by rw [ncAll_succ, HALL.out, HGB.out]; rfl⟩
                    case measure => simp [RowKit.intOf]; omega
                  | succ j =>
                    have hjl : j < es.length := by omega
                    obtain ⟨m0, m1⟩ := HPV.out j hjl
                    have HGD2 : Hid (ncGood now next es (j + 1) = decide ((0 ≤ x ∧ x ≤ next - 1) ∧ (0 ≤ y ∧ y ≤ now) ∧ (0 < j + 1 → es[j].x0 < x ∧ es[j].x1 ≤ y))) := hid (by rw [HGD.out, Nat.add_sub_cancel, nc_at hjl])
                    clear HPV HGD
                    generalize hej : es[j] = ej at *
                    obtain ⟨u, v⟩ := ej
                    clear hej
                    dsimp only at *
                    have b3 : (0 : Int) ≤ (j : Int) := by omega
                    have b4 : (j : Int) < (es.length : Int) := by omega
                    by_cases t3 : x ≤ u
                    · have HGB : Hid (ncGood now next es (j + 1) = false) := hid (by rw [HGD2.out]; exact decide_eq_false (by omega))
                      clear t1 t2 HGD2
                      go_wp2
                      go_quiet ((first | (go_at_call_of 108 (Value.int .i64 x); exact Calls.quiet_of_same (CX.out _)) | (go_at_call_of 108 (Value.int .i64 y); exact Calls.quiet_of_same (CY.out _))))
                      have hbd := below_drewN2 HBX.out nq
                      clear HXX HBX
                      go_wp2
                      go_ret
                      exact ⟨by rw [HTB.out, ncAll_no HGB.out hlt]; rfl, hbd⟩
                    · have hd3 : decide (x ≤ u) = false := decide_eq_false t3
                      have HT3 := hid t3
                      clear t3
                      by_cases t4 : y < v
                      · have t3 := HT3.out
                        have HGB : Hid (ncGood now next es (j + 1) = false) := hid (by rw [HGD2.out]; exact decide_eq_false (by omega))
                        clear t1 t2 HGD2 t3
                        go_wp2
                        go_quiet ((first | (go_at_call_of 108 (Value.int .i64 x); exact Calls.quiet_of_same (CX.out _)) | (go_at_call_of 108 (Value.int .i64 y); exact Calls.quiet_of_same (CY.out _))))
                        have hbd := below_drewN2 HBX.out nq
                        clear HXX HBX
                        go_wp2
                        go_ret
                        exact ⟨by rw [HTB.out, ncAll_no HGB.out hlt]; rfl, hbd⟩
                      · have hd4 : decide (y < v) = false := decide_eq_false t4
                        have t3 := HT3.out
                        have HGB : Hid (ncGood now next es (j + 1) = true) := hid (by rw [HGD2.out]; exact decide_eq_true ⟨t1, t2, fun _ => ⟨by omega, by omega⟩⟩)
                        clear t1 t2 HGD2 t3 t4
                        go_wp2
                        go_quiet ((first | (go_at_call_of 108 (Value.int .i64 x); exact Calls.quiet_of_same (CX.out _)) | (go_at_call_of 108 (Value.int .i64 y); exact Calls.quiet_of_same (CY.out _))))
                        have hbd := below_drewN2 HBX.out nq
                        go_wp2
                        go_roundw
                        case rel => exact ⟨j + 1 + 1, by omega, by go_num, hbd, HXX.out, by rw [ncAll_succ, HALL.out, HGB.out]; rfl⟩
                        case measure => simp [RowKit.intOf]; omega
                · rw [decide_eq_false t2] at CY
                  have HGB : Hid (ncGood now next es i = false) := hid (by rw [HGD.out]; exact decide_eq_false (fun h => t2 h.2.1))
                  clear t1 t2 HGD HPV
                  go_wp2
                  go_quiet ((first | (go_at_call_of 108 (Value.int .i64 x); exact Calls.quiet_of_same (CX.out _)) | (go_at_call_of 108 (Value.int .i64 y); exact Calls.quiet_of_same (CY.out _))))
                  have hbd := below_drewN2 HBX.out nq
                  clear HXX HBX
                  go_wp2
                  go_ret
                  exact ⟨by rw [HTB.out, ncAll_no HGB.out hlt]; rfl, hbd⟩
              · rw [decide_eq_false t1] at CX
                have HGB : Hid (ncGood now next es i = false) := hid (by rw [HGD.out]; exact decide_eq_false (fun h => t1 h.1))
                clear t1 HGD HPV
                go_wp2
                go_quiet ((first | (go_at_call_of 108 (Value.int .i64 x); exact Calls.quiet_of_same (CX.out _)) | (go_at_call_of 108 (Value.int .i64 y); exact Calls.quiet_of_same (CY.out _))))
                have hbd := below_drewN2 HBX.out nq
                clear HXX HBX
                go_wp2
                go_ret
                exact ⟨by rw [HTB.out, ncAll_no HGB.out hlt]; rfl, hbd⟩
            · have hie : i = es.length := by omega
              subst hie
              go_wp2
              go_ret
              exact ⟨by rw [HTB.out, HALL.out]; rfl, HB.out⟩
        · have d8 : (es.length : Int) > 8 := by omega
          rw [decide_eq_false h8] at HTB
          clear hnow hnext h8
          go_enter Tryd.func61, Tryd.ntmps61
          go_wp2_with (go_at_call 59; rw [← HW0.out]; refine (CS.out _).mono ?_; rintro e wq ⟨rfl, eq⟩; rw [eq, HS.out]; clear eq wq; refine Hid.out ?_)
          refine hid ?_
          go_wp2_with (go_at_call 108; refine (C1.out _).mono ?_; rintro e wq ⟨rfl, eq⟩; rw [eq, HD1.out]; clear eq wq; refine Hid.out ?_)
          refine hid ?_
          go_wp2_with (go_at_call 108; refine (C2.out _).mono ?_; rintro e wq ⟨rfl, eq⟩; rw [eq, HD2.out]; clear eq wq; refine Hid.out ?_)
          refine hid ?_
          go_wp2
          go_ret
          exact ⟨by rw [HTB.out]; rfl, HB0.out⟩
end Go.Proofs.YtkpieeakiolomaaDoor

namespace Go.Proofs.YtkpieeakiolomaaDoor
open Go.RowKit Go.Maps
open Go.Lib (hid)

theorem open_no {key : ByteArray} {now next : Int} {es : List NonceD} (hr : tabB key.data.toList now next es = false) (hn : es.length ≤ 1048576) (a : Value) (w : World) (ha : FRow encNonce 2 w a es) (hT : Tab w) (hG : 0 < w.heap.size) (hP : Lib.TabIs Tryd.prog w "internal/strconv.uint64pow10" .u64 Lib.pow10Tab) :
    Calls Tryd.prog 112 #[.agg #[.string key, .int .i64 now, .int .i64 next, a]] w fun e w' => e = .returned (.tuple #[.agg #[.string ⟨#[]⟩, .int .i64 0, .int .i64 0, .map none], .bool false]) ∧ Below w.heap.size w w' :=
  (open_calls (H := Unit) key now next es hn a w ha hT hG hP).mono fun e w' h => by
    unfold OpenPost at h
    rcases h with ⟨hb, ⟨_, he⟩ | ⟨hy, _⟩⟩
    · exact ⟨he, hb⟩
    · rw [hr] at hy; cases hy

theorem open_yes {key : ByteArray} {now next : Int} {es : List NonceD} (hr : tabB key.data.toList now next es = true) (hn : es.length ≤ 1048576) (a : Value) (w : World) (ha : FRow encNonce 2 w a es) (hT : Tab w) (hG : 0 < w.heap.size) (hP : Lib.TabIs Tryd.prog w "internal/strconv.uint64pow10" .u64 Lib.pow10Tab) :
    Calls Tryd.prog 112 #[.agg #[.string key, .int .i64 now, .int .i64 next, a]] w fun e w' => ∃ s, e = .returned (.tuple #[.agg #[.string key, .int .i64 now, .int .i64 next, .map (some s)], .bool true]) ∧ Below w.heap.size w w' ∧ w.heap.size ≤ s ∧ w'.ownsMap Tryd.prog 9 (ncElem (H := Unit)) s es.length (tabD key.data.toList es) :=
  (open_calls (H := Unit) key now next es hn a w ha hT hG hP).mono fun e w' h => by
    unfold OpenPost at h
    rcases h with ⟨hb, ⟨hy, _⟩ | ⟨_, s, he, hs, ho⟩⟩
    · rw [hr] at hy; cases hy
    · exact ⟨s, he, hb, hs, ho⟩

set_option maxRecDepth 20000 in
set_option maxHeartbeats 2000000 in
theorem tab_impl (key : ByteArray) (now next : Int) (es : List NonceD) (hn : es.length ≤ 1048576) (a : Value) (w : World) (ha : FRow encNonce 2 w a es) (hT : Tab w) (hG : 0 < w.heap.size) (hP : Lib.TabIs Tryd.prog w "internal/strconv.uint64pow10" .u64 Lib.pow10Tab) :
    Calls Tryd.prog 64 #[.agg #[.string key, .int .i64 now, .int .i64 next, a]] w fun e w' => e = .returned (.bool (tabB key.data.toList now next es)) ∧ Below w.heap.size w w' := by
  have CN := hid (fun hr W (hb : Below w.heap.size w W) => open_no (key := key) (now := now) (next := next) (es := es) hr hn a W (ha.on hb) (tab_on hT hG hb) (Nat.lt_of_lt_of_le hG hb.size) (Num.tab_stays hb hP))
  have CY := hid (fun hr W (hb : Below w.heap.size w W) => open_yes (key := key) (now := now) (next := next) (es := es) hr hn a W (ha.on hb) (tab_on hT hG hb) (Nat.lt_of_lt_of_le hG hb.size) (Num.tab_stays hb hP))
  obtain ⟨p, c, rfl, _, hrest⟩ := ha
  clear hrest hT hP hG
  obtain ⟨W0, hW0⟩ : ∃ W0, W0 = w.alloc (.cells #[.string key, .int .i64 now, .int .i64 next, .slice p es.length c] 49) := ⟨_, rfl⟩
  have HB0 : Hid (Below w.heap.size w W0) := hid (by rw [hW0]; exact (Below.refl _ _).alloc (Nat.le_refl _) _)
  have HW0 := hid hW0
  clear hW0
  cases hr : tabB key.data.toList now next es with
  | false =>
    have C := hid (CN.out hr)
    clear CN CY hr
    go_enter Tryd.func64, Tryd.ntmps64
    go_wp2_with (go_at_call 112; rw [← HW0.out]; refine (C.out _ HB0.out).mono ?_; rintro e w1 ⟨rfl, hb1⟩; refine Hid.out ?_)
    refine hid ?_
    have HB1 := hid (HB0.out.trans (hb1.mono HB0.out.size))
    clear hb1
    go_wp2
    go_ret
    exact ⟨rfl, HB1.out.alloc HB1.out.size _⟩
  | true =>
    have C := hid (CY.out hr)
    clear CN CY hr
    go_enter Tryd.func64, Tryd.ntmps64
    go_wp2_with (go_at_call 112; rw [← HW0.out]; refine (C.out _ HB0.out).mono ?_; rintro e w1 ⟨s, rfl, hb1, _, _⟩; refine Hid.out ?_)
    refine hid ?_
    have HB1 := hid (HB0.out.trans (hb1.mono HB0.out.size))
    clear hb1
    go_wp2
    go_ret
    exact ⟨rfl, HB1.out.alloc HB1.out.size _⟩
end Go.Proofs.YtkpieeakiolomaaDoor
