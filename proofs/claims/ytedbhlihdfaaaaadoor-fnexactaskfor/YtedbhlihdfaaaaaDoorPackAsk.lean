/- Laid together: AskPlain, SetHas, AskImpl. -/
import Derived.Test.YtedbhlihdfaaaaaDoorPackRelI
import Derived.Test.YtedbhlihdfaaaaaDoorPackKt
import Derived.Lib.SlicesCompact
import Derived.Test.YtedbhlihdfaaaaaDoorRelBoth

namespace Go.Proofs.YtedbhlihdfaaaaaDoor
open Go.RowKit Go.WideMaps Go.Maps
open Go.Lib (hid)

theorem rise_step {ps : List (List UInt8)} (h : risB ps ps.length = true) {i : Nat} (hi : i + 1 < ps.length) : ps[i] < ps[i + 1] := by
  have ha := List.all_eq_true.1 h (i + 1) (List.mem_range.2 hi)
  unfold risGood at ha
  rw [Bool.and_eq_true] at ha
  have hb := of_decide_eq_true ha.2 (Nat.succ_pos i)
  rw [txt_at hi] at hb
  rw [show i + 1 - 1 = i from rfl, txt_at (by omega)] at hb
  exact hb

theorem rise_lt {ps : List (List UInt8)} (h : risB ps ps.length = true) {i : Nat} : ∀ d, (hj : i + d + 1 < ps.length) → ps[i] < ps[i + d + 1]
  | 0, hj => rise_step h hj
  | d + 1, hj => List.lt_trans (rise_lt h d (by omega)) (rise_step h (i := i + d + 1) hj)

theorem ris_rising {ps : List (List UInt8)} (h : risB ps ps.length = true) : Rising ps := by
  unfold Rising
  rw [List.pairwise_iff_getElem]
  intro i j hi hj hij
  obtain ⟨d, rfl⟩ : ∃ d, j = i + d + 1 := ⟨j - i - 1, by omega⟩
  exact rise_lt h d hj

theorem some_rising {ps : List (List UInt8)} {m : Nat} (h : someB ps m = true) : ps.length ≤ m ∧ Rising ps := by
  unfold someB at h
  rw [Bool.and_eq_true] at h
  exact ⟨of_decide_eq_true h.1, ris_rising h.2⟩

theorem rel_parts {is ask ts : List (List UInt8)} (h : relB is ask ts = true) : (is.length ≤ 8 ∧ Rising is) ∧ (ask.length ≤ 30 ∧ Rising ask) ∧ (ts.length ≤ 200 ∧ Rising ts) := by
  unfold relB at h
  simp only [Bool.and_eq_true] at h
  exact ⟨some_rising h.1.1, some_rising h.1.2.1, some_rising h.1.2.2⟩

theorem tidy_set {H : Type} (ps : List (List UInt8)) : Tidy (setD (H := H) ps) := by
  unfold setD
  exact tidy_setOf _ _ (fun z hz => by obtain ⟨l, _, rfl⟩ := List.mem_map.1 hz; trivial)

theorem size_set {H : Type} {ps : List (List UInt8)} (hp : Rising ps) : ∀ k, k ≤ ps.length → Maps.size (setD (H := H) (ps.take k)) = k
  | 0, _ => rfl
  | k + 1, h => by
    have ht : ps.take (k + 1) = ps.take k ++ [ps[k]] := List.take_succ_eq_append_getElem h
    rw [ht, set_snoc, size_put (tidy_set _)]
    have hno : Maps.has (setD (H := H) (ps.take k)) (.string ps[k]) = false := by
      rw [Bool.eq_false_iff]
      intro hh
      have hm := (set_has (H := H) (ps.take k) ps[k]).1 hh
      obtain ⟨j, hj, he⟩ := List.mem_iff_getElem.1 hm
      rw [List.length_take] at hj
      rw [List.getElem_take] at he
      have hlt := List.pairwise_iff_getElem.1 hp j k (by omega) h (by omega)
      rw [he] at hlt
      exact List.lt_irrefl _ hlt
    rw [hno, size_set hp k (Nat.le_of_succ_le h)]
    rfl

theorem size_setD {H : Type} {ps : List (List UInt8)} (hp : Rising ps) : Maps.size (setD (H := H) ps) = ps.length := by
  have h := size_set (H := H) hp ps.length (Nat.le_refl _)
  rwa [List.take_of_length_le (Nat.le_refl _)] at h

/-- A rising list with one text more. -/
def insR (ps : List (List UInt8)) (x : List UInt8) : List (List UInt8) := Lib.compact ((ps ++ [x]).mergeSort fun x y => decide (x ≤ y))

theorem insR_rising (ps : List (List UInt8)) (x : List UInt8) : Rising (insR ps x) := (sort_compact (ps ++ [x])).1
theorem insR_mem (ps : List (List UInt8)) (x z : List UInt8) : z ∈ insR ps x ↔ z ∈ ps ∨ z = x := by
  have h := (sort_compact (ps ++ [x])).2 z
  unfold insR
  rw [h]
  simp

def askL (ask ts : List (List UInt8)) (x : ByteArray) : Int :=
  if (nodeOf x).1 = 0 then 2 else if x.data.toList ∈ ask ∨ x.data.toList ∈ ts then 3 else if 30 ≤ ask.length then 4 else 0

def askQ (ask ts : List (List UInt8)) (x : ByteArray) : List (List UInt8) := if askL ask ts x = 0 then insR ask x.data.toList else ask

def askC (is ask ts : List (List UInt8)) (x : ByteArray) : Int := if relB is ask ts = true then askL ask ts x else 1
def ask1 (is ask ts : List (List UInt8)) : List (List UInt8) := if relB is ask ts = true then is else []
def ask2 (is ask ts : List (List UInt8)) (x : ByteArray) : List (List UInt8) := if relB is ask ts = true then askQ ask ts x else []
def ask3 (is ask ts : List (List UInt8)) : List (List UInt8) := if relB is ask ts = true then ts else []

/-- Three rows of one's own, in blocks apart. -/
structure Own3 (lo : Nat) (w : World) (v1 v2 v3 : Value) (l1 l2 l3 : List (List UInt8)) : Prop where
  r1 : w.ownsRow lo 9 1 v1 l1.length (strs l1)
  r2 : w.ownsRow lo 9 1 v2 l2.length (strs l2)
  r3 : w.ownsRow lo 9 1 v3 l3.length (strs l3)
  d12 : ApartV v1 v2
  d13 : ApartV v1 v3
  d23 : ApartV v2 v3

/-- What AskFor answers. -/
def AskPost (is ask ts : List (List UInt8)) (x : ByteArray) (w : World) (e : Ending) (w' : World) : Prop :=
  ∃ v1 v2 v3, e = .returned (.tuple #[.agg #[v1, v2, v3], .int .i64 (askC is ask ts x)]) ∧ Below w.heap.size w w' ∧ Own3 w.heap.size w' v1 v2 v3 (ask1 is ask ts) (ask2 is ask ts x) (ask3 is ask ts)

theorem own_nil (lo : Nat) (w : World) : w.ownsRow lo 9 1 (.slice none 0 0) 0 (strs []) := ⟨rfl, .inl ⟨rfl, rfl⟩⟩

theorem own3_nil (lo : Nat) (w : World) : Own3 lo w (.slice none 0 0) (.slice none 0 0) (.slice none 0 0) [] [] [] :=
  ⟨own_nil lo w, own_nil lo w, own_nil lo w, (fun _ _ h => by cases h), (fun _ _ h => by cases h), (fun _ _ h => by cases h)⟩

theorem ask_no {is ask ts : List (List UInt8)} {x : ByteArray} {w w' : World} {e : Ending} (hr : relB is ask ts = false) (he : e = .returned (.tuple #[.agg #[.slice none 0 0, .slice none 0 0, .slice none 0 0], .int .i64 1])) (hb : Below w.heap.size w w') : AskPost is ask ts x w e w' := by
  have hn : ¬ relB is ask ts = true := by rw [hr]; exact Bool.false_ne_true
  refine ⟨.slice none 0 0, .slice none 0 0, .slice none 0 0, ?_, hb, ?_⟩
  · unfold askC
    rw [if_neg hn]
    exact he
  · unfold ask1 ask2 ask3
    rw [if_neg hn, if_neg hn, if_neg hn]
    exact own3_nil _ _

theorem ask_yes {is ask ts : List (List UInt8)} {x : ByteArray} {w w' : World} {e : Ending} {v1 v2 v3 : Value} (hr : relB is ask ts = true) (he : e = .returned (.tuple #[.agg #[v1, v2, v3], .int .i64 (askL ask ts x)])) (hb : Below w.heap.size w w') (ho : Own3 w.heap.size w' v1 v2 v3 is (askQ ask ts x) ts) : AskPost is ask ts x w e w' := by
  refine ⟨v1, v2, v3, ?_, hb, ?_⟩
  · unfold askC
    rw [if_pos hr]
    exact he
  · unfold ask1 ask2 ask3
    rw [if_pos hr, if_pos hr, if_pos hr]
    exact ho
end Go.Proofs.YtedbhlihdfaaaaaDoor

namespace Go.Proofs.YtedbhlihdfaaaaaDoor
open Go.RowKit Go.WideMaps Go.Maps
open Go.Lib (hid)

theorem unit_zero (w : World) : (zeroValue 290).run Tryd.prog w = .ok (.agg #[]) w := by kernel_rfl

set_option maxRecDepth 20000 in
theorem shas_calls {H : Type} (D : DataW H) (s n : Nat) (x : ByteArray) (w : World) (hx : x.size ≤ maxLen) (ho : w.ownsMap Tryd.prog 9 (unitElem (H := H)) s n D) :
    Calls Tryd.prog 179 #[.map (some s), .string x] w fun e w' => e = .returned (.bool (has D (.string x.data.toList))) ∧ Below w.heap.size w w' := by
  have HO := hid ho
  have HK := hid (keyOf_string_mk (P := Tryd.prog) Tryd.underlying9 hx)
  have hst : ∀ (ad : Addr) (W : World), (storeCells ad []).run Tryd.prog W = .ok () W := fun _ _ => by rfl
  clear ho
  go_enter Tryd.func179, Tryd.ntmps179
  go_wp2_with (first
    | (at_lookup; refine wpList_lookup_own_ok _ rfl _ _ _ rfl 9 290 setKeyed Tryd.underlying130 (unitElem (H := H)) (unit_zero _) (.agg []) [] rfl s n D rfl HO.out _ (.string x.data.toList) rfl HK.out ?_; intro v q hv; have hve : v = Value.agg #[] := (unitElem_inv hv).1; subst hve; clear hv; refine Hid.out ?_)
    | (fail "no arm"))
  refine hid ?_
  go_wp2
  go_ret
  exact ⟨rfl, (Below.refl _ _).alloc (Nat.le_refl _) _⟩
end Go.Proofs.YtedbhlihdfaaaaaDoor

namespace Go.Proofs.YtedbhlihdfaaaaaDoor
open Go.RowKit Go.WideMaps Go.Maps
open Go.Lib (hid)

/-- What asking tells. -/
def askN {H : Type} (D2 D3 : DataW H) (x : ByteArray) : Int :=
  if (nodeOf x).1 = 0 then 2 else if has D2 (.string x.data.toList) = true ∨ has D3 (.string x.data.toList) = true then 3 else if 30 ≤ Maps.size D2 then 4 else 0

set_option maxRecDepth 20000 in
set_option maxHeartbeats 4000000 in
theorem askFor_calls {H : Type} (D2 D3 : DataW H) (s1 s2 s3 n2 n3 : Nat) (x : ByteArray) (hx : x.size ≤ maxLen) (hm : n2 < 1048576) (hsz : Maps.size D2 ≤ 1048576) (w : World)
    (o2 : w.ownsMap Tryd.prog 9 (unitElem (H := H)) s2 n2 D2) (o3 : w.ownsMap Tryd.prog 9 (unitElem (H := H)) s3 n3 D3) (hT : Tab w) (hG : 0 < w.heap.size) :
    Calls Tryd.prog 93 #[.agg #[.map (some s1), .map (some s2), .map (some s3)], .string x] w fun e w' => e = .returned (.int .i64 (askN D2 D3 x)) ∧
      (askN D2 D3 x ≠ 0 → Below w.heap.size w w') ∧ (askN D2 D3 x = 0 → w'.ownsMap Tryd.prog 9 (unitElem (H := H)) s2 (n2 + 1) (D2.put (.string x.data.toList) (.agg [])) ∧ w.grownBy w' (some s2)) := by
  have CK := hid (fun W (hB : Below w.heap.size w W) => kind_impl x W (tab_on hT hG hB) (Nat.lt_of_lt_of_le hG hB.size))
  have C2 := hid (fun W (hB : Below w.heap.size w W) => shas_calls D2 s2 n2 x W hx (o2.kept (grown_below (row := none) hB) (by simp)))
  have C3 := hid (fun W (hB : Below w.heap.size w W) => shas_calls D3 s3 n3 x W hx (o3.kept (grown_below (row := none) hB) (by simp)))
  have CP := hid (fun W (hB : Below w.heap.size w W) => sput_calls s2 n2 D2 x W hx (o2.kept (grown_below (row := none) hB) (by simp)) hm)
  have HO2 := hid o2
  have hs2 := o2.lt
  have HA : Hid (askN D2 D3 x = if (nodeOf x).1 = 0 then 2 else if has D2 (.string x.data.toList) = true ∨ has D3 (.string x.data.toList) = true then 3 else if 30 ≤ Maps.size D2 then 4 else 0) := hid rfl
  generalize askN D2 D3 x = r at *
  generalize (nodeOf x).1 = kd at *
  generalize has D2 (.string x.data.toList) = b2 at *
  generalize has D3 (.string x.data.toList) = b3 at *
  clear o2 o3 hT hG
  have HB0_0 : Hid (Below w.heap.size w w) := hid (Below.refl _ _)
  have hz0 : w.heap.size ≤ w.heap.size := Nat.le_refl _
  obtain ⟨w1, hw1⟩ : ∃ W, W = w.alloc (.cells #[.map (some s1), .map (some s2), .map (some s3)] 132) := ⟨_, rfl⟩
  have hb1 : Below w.heap.size w w1 := by rw [hw1]; exact (Below.refl _ _).alloc (Nat.le_refl _) _
  have hz1 : w.heap.size < w1.heap.size := by rw [hw1]; simp
  have HVB_1 : Hid (w1.heap[w.heap.size]? = some (.cells #[.map (some s1), .map (some s2), .map (some s3)] 132)) := hid (by rw [hw1]; exact heap_alloc_new _ _)
  have HW1 := hid hw1
  have HB0_1 := hid (HB0_0.out.trans (hb1.mono HB0_0.out.size))
  clear hw1 hb1
  by_cases hk : kd = 0
  · subst hk
    have HZ : Hid (r = 2) := hid (by rw [HA.out, if_pos rfl])
    clear HA
    go_enter Tryd.func93, Tryd.ntmps93
    go_wp2_with (go_at_call 178; rw [← HW1.out]; refine (CK.out _ HB0_1.out).mono ?_; rintro e w2 ⟨rfl, hb2⟩; refine Hid.out ?_)
    refine hid ?_
    have hz2 := hb2.size
    have HB0_2 := hid (HB0_1.out.trans (hb2.mono HB0_1.out.size))
    have HVB_2 := hid ((hb2.block _ (by omega)).trans HVB_1.out)
    clear HB0_1 HVB_1
    clear hb2
    go_wp2
    go_ret
    exact ⟨by rw [HZ.out] <;> rfl, fun _ => HB0_2.out, fun h => absurd (HZ.out.symm.trans h) (by decide)⟩
  · rw [if_neg hk] at HA
    have hkd : ((kd : Int) == 0) = false := by rw [beq_eq_false_iff_ne]; omega
    clear hk
    cases b2 with
    | true =>
      have HZ : Hid (r = 3) := hid (by rw [HA.out, if_pos (Or.inl rfl)])
      clear HA
      go_enter Tryd.func93, Tryd.ntmps93
      go_wp2_with (go_at_call 178; rw [← HW1.out]; refine (CK.out _ HB0_1.out).mono ?_; rintro e w2 ⟨rfl, hb2⟩; refine Hid.out ?_)
      refine hid ?_
      have hz2 := hb2.size
      have HB0_2 := hid (HB0_1.out.trans (hb2.mono HB0_1.out.size))
      have HVB_2 := hid ((hb2.block _ (by omega)).trans HVB_1.out)
      clear HB0_1 HVB_1
      clear hb2
      have k_B_0 := (cell_of_row _ _ 0 _ _ _ HVB_2.out).trans rfl
      have k_B_1 := (cell_of_row _ _ 1 _ _ _ HVB_2.out).trans rfl
      have k_B_2 := (cell_of_row _ _ 2 _ _ _ HVB_2.out).trans rfl
      go_wp2_with (go_at_call 179; refine (C2.out _ HB0_2.out).mono ?_; rintro e w3 ⟨rfl, hb3⟩; refine Hid.out ?_)
      refine hid ?_
      clear k_B_0 k_B_1 k_B_2
      have hz3 := hb3.size
      have HB0_3 := hid (HB0_2.out.trans (hb3.mono HB0_2.out.size))
      have HVB_3 := hid ((hb3.block _ (by omega)).trans HVB_2.out)
      clear HB0_2 HVB_2
      clear hb3
      go_wp2
      go_ret
      exact ⟨by rw [HZ.out] <;> rfl, fun _ => HB0_3.out, fun h => absurd (HZ.out.symm.trans h) (by decide)⟩
    | false =>
      cases b3 with
      | true =>
        have HZ : Hid (r = 3) := hid (by rw [HA.out, if_pos (Or.inr rfl)])
        clear HA
        go_enter Tryd.func93, Tryd.ntmps93
        go_wp2_with (go_at_call 178; rw [← HW1.out]; refine (CK.out _ HB0_1.out).mono ?_; rintro e w2 ⟨rfl, hb2⟩; refine Hid.out ?_)
        refine hid ?_
        have hz2 := hb2.size
        have HB0_2 := hid (HB0_1.out.trans (hb2.mono HB0_1.out.size))
        have HVB_2 := hid ((hb2.block _ (by omega)).trans HVB_1.out)
        clear HB0_1 HVB_1
        clear hb2
        have k_B_0 := (cell_of_row _ _ 0 _ _ _ HVB_2.out).trans rfl
        have k_B_1 := (cell_of_row _ _ 1 _ _ _ HVB_2.out).trans rfl
        have k_B_2 := (cell_of_row _ _ 2 _ _ _ HVB_2.out).trans rfl
        go_wp2_with (go_at_call 179; refine (C2.out _ HB0_2.out).mono ?_; rintro e w3 ⟨rfl, hb3⟩; refine Hid.out ?_)
        refine hid ?_
        clear k_B_0 k_B_1 k_B_2
        have hz3 := hb3.size
        have HB0_3 := hid (HB0_2.out.trans (hb3.mono HB0_2.out.size))
        have HVB_3 := hid ((hb3.block _ (by omega)).trans HVB_2.out)
        clear HB0_2 HVB_2
        clear hb3
        have k_B_0 := (cell_of_row _ _ 0 _ _ _ HVB_3.out).trans rfl
        have k_B_1 := (cell_of_row _ _ 1 _ _ _ HVB_3.out).trans rfl
        have k_B_2 := (cell_of_row _ _ 2 _ _ _ HVB_3.out).trans rfl
        go_wp2_with (go_at_call 179; refine (C3.out _ HB0_3.out).mono ?_; rintro e w4 ⟨rfl, hb4⟩; refine Hid.out ?_)
        refine hid ?_
        clear k_B_0 k_B_1 k_B_2
        have hz4 := hb4.size
        have HB0_4 := hid (HB0_3.out.trans (hb4.mono HB0_3.out.size))
        have HVB_4 := hid ((hb4.block _ (by omega)).trans HVB_3.out)
        clear HB0_3 HVB_3
        clear hb4
        go_wp2
        go_ret
        exact ⟨by rw [HZ.out] <;> rfl, fun _ => HB0_4.out, fun h => absurd (HZ.out.symm.trans h) (by decide)⟩
      | false =>
        rw [if_neg (fun h => by rcases h with h | h <;> cases h)] at HA
        by_cases h30 : 30 ≤ Maps.size D2
        · have HZ : Hid (r = 4) := hid (by rw [HA.out, if_pos h30])
          have hge : decide ((30 : Int) ≤ (Maps.size D2 : Int)) = true := decide_eq_true (by omega)
          clear HA
          go_enter Tryd.func93, Tryd.ntmps93
          go_wp2_with (go_at_call 178; rw [← HW1.out]; refine (CK.out _ HB0_1.out).mono ?_; rintro e w2 ⟨rfl, hb2⟩; refine Hid.out ?_)
          refine hid ?_
          have hz2 := hb2.size
          have HB0_2 := hid (HB0_1.out.trans (hb2.mono HB0_1.out.size))
          have HVB_2 := hid ((hb2.block _ (by omega)).trans HVB_1.out)
          clear HB0_1 HVB_1
          clear hb2
          have k_B_0 := (cell_of_row _ _ 0 _ _ _ HVB_2.out).trans rfl
          have k_B_1 := (cell_of_row _ _ 1 _ _ _ HVB_2.out).trans rfl
          have k_B_2 := (cell_of_row _ _ 2 _ _ _ HVB_2.out).trans rfl
          go_wp2_with (go_at_call 179; refine (C2.out _ HB0_2.out).mono ?_; rintro e w3 ⟨rfl, hb3⟩; refine Hid.out ?_)
          refine hid ?_
          clear k_B_0 k_B_1 k_B_2
          have hz3 := hb3.size
          have HB0_3 := hid (HB0_2.out.trans (hb3.mono HB0_2.out.size))
          have HVB_3 := hid ((hb3.block _ (by omega)).trans HVB_2.out)
          clear HB0_2 HVB_2
          clear hb3
          have k_B_0 := (cell_of_row _ _ 0 _ _ _ HVB_3.out).trans rfl
          have k_B_1 := (cell_of_row _ _ 1 _ _ _ HVB_3.out).trans rfl
          have k_B_2 := (cell_of_row _ _ 2 _ _ _ HVB_3.out).trans rfl
          go_wp2_with (go_at_call 179; refine (C3.out _ HB0_3.out).mono ?_; rintro e w4 ⟨rfl, hb4⟩; refine Hid.out ?_)
          refine hid ?_
          clear k_B_0 k_B_1 k_B_2
          have hz4 := hb4.size
          have HB0_4 := hid (HB0_3.out.trans (hb4.mono HB0_3.out.size))
          have HVB_4 := hid ((hb4.block _ (by omega)).trans HVB_3.out)
          clear HB0_3 HVB_3
          clear hb4
          have HOL := hid (HO2.out.kept (grown_below (row := none) HB0_4.out) (by simp))
          have k_B_0 := (cell_of_row _ _ 0 _ _ _ HVB_4.out).trans rfl
          have k_B_1 := (cell_of_row _ _ 1 _ _ _ HVB_4.out).trans rfl
          have k_B_2 := (cell_of_row _ _ 2 _ _ _ HVB_4.out).trans rfl
          go_wp2_with (first
            | (refine wpList_len_own _ rfl _ 130 rfl 9 290 Tryd.underlying130 (unitElem (H := H)) s2 n2 D2 rfl HOL.out ?_)
            | (fail "no arm"))
          go_ret
          exact ⟨by rw [HZ.out] <;> rfl, fun _ => HB0_4.out, fun h => absurd (HZ.out.symm.trans h) (by decide)⟩
        · have HZ : Hid (r = 0) := hid (by rw [HA.out, if_neg h30])
          have hge : decide ((30 : Int) ≤ (Maps.size D2 : Int)) = false := decide_eq_false (by omega)
          clear HA
          go_enter Tryd.func93, Tryd.ntmps93
          go_wp2_with (go_at_call 178; rw [← HW1.out]; refine (CK.out _ HB0_1.out).mono ?_; rintro e w2 ⟨rfl, hb2⟩; refine Hid.out ?_)
          refine hid ?_
          have hz2 := hb2.size
          have HB0_2 := hid (HB0_1.out.trans (hb2.mono HB0_1.out.size))
          have HVB_2 := hid ((hb2.block _ (by omega)).trans HVB_1.out)
          clear HB0_1 HVB_1
          clear hb2
          have k_B_0 := (cell_of_row _ _ 0 _ _ _ HVB_2.out).trans rfl
          have k_B_1 := (cell_of_row _ _ 1 _ _ _ HVB_2.out).trans rfl
          have k_B_2 := (cell_of_row _ _ 2 _ _ _ HVB_2.out).trans rfl
          go_wp2_with (go_at_call 179; refine (C2.out _ HB0_2.out).mono ?_; rintro e w3 ⟨rfl, hb3⟩; refine Hid.out ?_)
          refine hid ?_
          clear k_B_0 k_B_1 k_B_2
          have hz3 := hb3.size
          have HB0_3 := hid (HB0_2.out.trans (hb3.mono HB0_2.out.size))
          have HVB_3 := hid ((hb3.block _ (by omega)).trans HVB_2.out)
          clear HB0_2 HVB_2
          clear hb3
          have k_B_0 := (cell_of_row _ _ 0 _ _ _ HVB_3.out).trans rfl
          have k_B_1 := (cell_of_row _ _ 1 _ _ _ HVB_3.out).trans rfl
          have k_B_2 := (cell_of_row _ _ 2 _ _ _ HVB_3.out).trans rfl
          go_wp2_with (go_at_call 179; refine (C3.out _ HB0_3.out).mono ?_; rintro e w4 ⟨rfl, hb4⟩; refine Hid.out ?_)
          refine hid ?_
          clear k_B_0 k_B_1 k_B_2
          have hz4 := hb4.size
          have HB0_4 := hid (HB0_3.out.trans (hb4.mono HB0_3.out.size))
          have HVB_4 := hid ((hb4.block _ (by omega)).trans HVB_3.out)
          clear HB0_3 HVB_3
          clear hb4
          have HOL := hid (HO2.out.kept (grown_below (row := none) HB0_4.out) (by simp))
          have k_B_0 := (cell_of_row _ _ 0 _ _ _ HVB_4.out).trans rfl
          have k_B_1 := (cell_of_row _ _ 1 _ _ _ HVB_4.out).trans rfl
          have k_B_2 := (cell_of_row _ _ 2 _ _ _ HVB_4.out).trans rfl
          go_wp2_with (first
            | (refine wpList_len_own _ rfl _ 130 rfl 9 290 Tryd.underlying130 (unitElem (H := H)) s2 n2 D2 rfl HOL.out ?_)
            | (fail "no arm"))
          go_wp2_with (first
            | (go_at_call 180; refine (CP.out _ HB0_4.out).mono ?_; rintro e w9 ⟨rfl, ho9, hg9⟩; refine Hid.out ?_)
            | (fail "no arm"))
          refine hid ?_
          have HO9 := hid ho9
          have HG9 := hid hg9
          have HB9 := HB0_4.out
          clear ho9 hg9
          go_wp2
          go_ret
          exact ⟨by rw [HZ.out] <;> rfl, fun h => absurd HZ.out h, fun _ => ⟨HO9.out, (grown_below (row := some s2) HB9).trans HG9.out⟩⟩
end Go.Proofs.YtedbhlihdfaaaaaDoor
