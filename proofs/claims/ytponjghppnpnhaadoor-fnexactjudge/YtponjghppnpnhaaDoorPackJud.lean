/- Laid together: JudPlain, JudSpec, JudSearch, JudImpl, JudBoth. -/
import Derived.Test.YtponjghppnpnhaaDoorPackRows
import Derived.Test.YtponjghppnpnhaaDoorMeasBoth
import Derived.Test.YtponjghppnpnhaaDoorShelfS
import Derived.Test.YtponjghppnpnhaaDoorPackPol

namespace Go.Proofs.YtponjghppnpnhaaDoor
open Go.RowKit Go.WideMaps Go.Maps
open Go.Lib (hid)

def isKey (layer : Int) (name : ByteArray) (e : RefD) : Bool := decide (e.x0 = layer) && decide (e.x1.data.toList = name.data.toList)

/-- The row of a layer and a name. -/
def rowO (es : List RefD) (layer : Int) (name : ByteArray) : Option RefD := es.find? (isKey layer name)

def sayO (ps : List (List UInt8)) (t : List UInt8) (ver : Int) (e : RefD) : Int := if t ∈ ps then 3 else if ver < e.x2 then 4 else 0

def judO (num : Int) (es : List RefD) (ps : List (List UInt8)) (layer : Int) (name : ByteArray) (ver : Int) : Int :=
  if polB num es ps = true ∧ (measOut layer name.data.toList ver).1 = true then (match rowO es layer name with | none => 2 | some e => sayO ps (measOut layer name.data.toList ver).2 ver e) else 1

theorem find_step {p : RefD → Bool} {es : List RefD} {i : Nat} (h : i < es.length) {o : Option RefD} (hp : o = (es.drop i).find? p) (hn : p es[i] = false) : o = (es.drop (i + 1)).find? p := by
  rw [hp, List.drop_eq_getElem_cons h, List.find?_cons, hn]

theorem find_here {p : RefD → Bool} {es : List RefD} {i : Nat} (h : i < es.length) {o : Option RefD} (hp : o = (es.drop i).find? p) (hy : p es[i] = true) : o = some es[i] := by
  rw [hp, List.drop_eq_getElem_cons h, List.find?_cons, hy]

theorem find_end {p : RefD → Bool} {es : List RefD} {o : Option RefD} (hp : o = (es.drop es.length).find? p) : o = none := by
  rw [hp, List.drop_eq_nil_of_le (Nat.le_refl _)]
  rfl

theorem row_none {es : List RefD} {layer : Int} {name : ByteArray} (h : rowO es layer name = none) : ∀ k, k < es.length → isKey layer name (es.getD k zRef) = false := fun k hk => by
  unfold rowO at h
  rw [ref_at hk]
  have := List.find?_eq_none.1 h es[k] (List.getElem_mem hk)
  simpa using this

theorem row_some {es : List RefD} {layer : Int} {name : ByteArray} {e : RefD} (h : rowO es layer name = some e) : ∃ k, k < es.length ∧ es.getD k zRef = e ∧ isKey layer name (es.getD k zRef) = true := by
  unfold rowO at h
  obtain ⟨k, hk, rfl⟩ := List.mem_iff_getElem.1 (List.mem_of_find?_eq_some h)
  exact ⟨k, hk, ref_at hk, by rw [ref_at hk]; exact List.find?_some h⟩

theorem key_is {layer : Int} {name : ByteArray} {e : RefD} (h : isKey layer name e = true) : e.x0 = layer ∧ e.x1 = name := by
  unfold isKey at h
  rw [Bool.and_eq_true, decide_eq_true_iff, decide_eq_true_iff] at h
  exact ⟨h.1, ByteArray.ext (Array.toList_inj.1 h.2)⟩

theorem key_not (w : World) {es : List RefD} (hf : RowsFit es) {layer : Int} {name : ByteArray} (hl : -9223372036854775808 ≤ layer ∧ layer ≤ 9223372036854775807) (hs : name.size ≤ maxLen) {n : Nat} (hn : n < es.length) (h : isKey layer name (es.getD n zRef) = false) : rk layer name ≠ rkAt es n := fun e => by
  obtain ⟨h1, h2⟩ := rk_inj w hl (hf n hn).1 hs (hf n hn).2 e
  unfold isKey at h
  rw [← h1, ← h2] at h
  simp at h

theorem rows_none {H : Type} (w : World) {es : List RefD} (hf : RowsFit es) {layer : Int} {name : ByteArray} (hl : -9223372036854775808 ≤ layer ∧ layer ≤ 9223372036854775807) (hs : name.size ≤ maxLen) : ∀ n, n ≤ es.length → (∀ k, k < n → isKey layer name (es.getD k zRef) = false) → Maps.has (rowsD (H := H) es n) (rk layer name) = false
  | 0, _, _ => rfl
  | n + 1, h, hk => by
    show Maps.has ((rowsD es n).put (rkAt es n) _) (rk layer name) = false
    rw [has_put_other (key_not w hf hl hs h (hk n (Nat.lt_succ_self n)))]
    exact rows_none w hf hl hs n (Nat.le_of_succ_le h) (fun k hk2 => hk k (Nat.lt_succ_of_lt hk2))

theorem rows_some {H : Type} (w : World) {es : List RefD} (hf : RowsFit es) (hg : rowsB es es.length = true) {layer : Int} {name : ByteArray} (hl : -9223372036854775808 ≤ layer ∧ layer ≤ 9223372036854775807) (hs : name.size ≤ maxLen) : ∀ n, n ≤ es.length → ∀ k, k < n → isKey layer name (es.getD k zRef) = true →
    Maps.has (rowsD (H := H) es n) (rk layer name) = true ∧ ∀ z, (rowsD (H := H) es n).atKey (rk layer name) z = rowData (es.getD k zRef).x0 (es.getD k zRef).x1.data.toList (es.getD k zRef).x2 k
  | 0, _, k, hk, _ => absurd hk (by omega)
  | n + 1, h, k, hk, hy => by
    have hT := tidy_rows (H := H) w hf n (Nat.le_of_succ_le h)
    by_cases e : k = n
    · subst e
      obtain ⟨h1, h2⟩ := key_is hy
      have hkk : rk layer name = rkAt es k := by unfold rkAt; rw [h1, h2]
      rw [hkk]
      exact ⟨has_put_same hT.isMap (lit_at w hf h) _, fun z => atKey_put_same hT.isMap (lit_at w hf h) _ _⟩
    · have hkn : k < n := by omega
      have hno : isKey layer name (es.getD n zRef) = false := by
        cases hc : isKey layer name (es.getD n zRef) with
        | false => rfl
        | true =>
          exfalso
          obtain ⟨h1, h2⟩ := key_is hy
          obtain ⟨h3, h4⟩ := key_is hc
          have ha := List.all_eq_true.1 hg n (List.mem_range.2 h)
          unfold rowGood at ha
          rw [Bool.and_eq_true] at ha
          have hb := List.all_eq_true.1 ha.2 k (List.mem_range.2 hkn)
          exact of_decide_eq_true hb ⟨h1.trans h3.symm, by rw [h2, h4]⟩
      obtain ⟨i1, i2⟩ := rows_some w hf hg hl hs n (Nat.le_of_succ_le h) k hkn hy
      have hne := key_not w hf hl hs h hno
      show Maps.has ((rowsD es n).put (rkAt es n) _) (rk layer name) = true ∧ ∀ z, ((rowsD es n).put (rkAt es n) _).atKey (rk layer name) z = _
      exact ⟨by rw [has_put_other hne]; exact i1, fun z => by rw [atKey_put_other hne]; exact i2 z⟩
end Go.Proofs.YtponjghppnpnhaaDoor

namespace Go.Proofs.YtponjghppnpnhaaDoor
open Go.RowKit
open Go.Lib (hid)

theorem same_bytes (x : List UInt8) (t : List UInt8) : ((bytesOf x).toList == (bytesOf t).toList) = decide (x = t) := by
  rw [Lib.toList_data, Lib.toList_data, bytesOf_list, bytesOf_list, Bool.eq_iff_iff, beq_iff_eq, decide_eq_true_iff]

set_option maxRecDepth 20000 in
set_option maxHeartbeats 4000000 in
theorem has_spec (ps : List (List UInt8)) (hm : ps.length ≤ 1048576) (t : List UInt8) (b : Value) (w : World) (hb : TextsAt w b ps) :
    Calls Tryd.prog 71 #[b, .string (bytesOf t)] w fun e w' => e = .returned (.bool (decide (t ∈ ps))) ∧ Below w.heap.size w w' := by
  have HE := hid hb
  obtain ⟨q, d, rfl, hrest⟩ := hb
  clear hrest
  have HTT := hid (fun x => same_bytes x t)
  obtain ⟨y, hy⟩ : ∃ y, bytesOf t = y := ⟨_, rfl⟩
  rw [hy] at HTT ⊢
  clear hy
  go_enter Tryd.func71, Tryd.ntmps71
  go_wp2
  go_loopw [5] (fun iv wr => ∃ i : Nat, i ≤ ps.length ∧ iv = .int .i64 i ∧ Below w.heap.size w wr ∧ Hid (t ∉ ps.take i)) (fun iv _ => ps.length - (RowKit.intOf iv).toNat)
  case atStart => exact ⟨0, Nat.zero_le _, rfl, Below.refl _ _, hid (by simp)⟩
  case round =>
    obtain ⟨i, hi, rfl, hbel, HN⟩ := hrel
    have HB := hid hbel
    by_cases hlt : i < ps.length
    · have hne : ps ≠ [] := fun h => by rw [h] at hlt; cases hlt
      obtain ⟨q', d', hv, hp⟩ := HE.out
      obtain ⟨rfl, rfl⟩ : q = q' ∧ d = d' := by injection hv with h1 h2 h3; exact ⟨h1, by omega⟩
      obtain ⟨g, rfl, hg, hc⟩ := hp hne
      clear hv hp
      have b1 : (0 : Int) ≤ (i : Int) := by omega
      have b2 : (i : Int) < (ps.length : Int) := by omega
      have m0 := (hbel.cell (p := ⟨g, i, none⟩) hg).trans (hc i hlt)
      have HTK : Hid (ps.take (i + 1) = ps.take i ++ [ps[i]]) := hid (List.take_succ_eq_append_getElem hlt)
      have HIN : Hid (ps[i] ∈ ps) := hid (List.getElem_mem hlt)
      clear hc hbel
      generalize ps[i] = x at *
      rw [show (⟨x.toArray⟩ : ByteArray) = bytesOf x from rfl] at m0
      have hxt := HTT.out x
      generalize bytesOf x = X at *
      by_cases hx : x = t
      · subst hx
        rw [decide_eq_true rfl] at hxt
        go_wp2
        go_ret
        exact ⟨by rw [decide_eq_true HIN.out] <;> rfl, HB.out⟩
      · rw [decide_eq_false hx] at hxt
        have HX := hid hx
        clear hx
        go_wp2
        go_roundw
        case rel => exact ⟨i + 1, by omega, by go_num, HB.out, hid (by rw [HTK.out]; simp only [List.mem_append, List.mem_singleton, not_or]; exact ⟨HN.out, fun e => HX.out e.symm⟩)⟩
        case measure => simp [RowKit.intOf]; omega
    · have hie : i = ps.length := by omega
      subst hie
      have hn := HN.out
      rw [List.take_of_length_le (Nat.le_refl _)] at hn
      have HN2 := hid hn
      clear hn
      go_wp2
      go_ret
      exact ⟨by rw [decide_eq_false HN2.out] <;> rfl, HB.out⟩

set_option maxRecDepth 20000 in
set_option maxHeartbeats 4000000 in
theorem jud_spec (num : Int) (es : List RefD) (hn : es.length ≤ 1048576) (ps : List (List UInt8)) (hm : ps.length ≤ 1048576) (hs : ∀ p ∈ ps, p.length ≤ 1048576) (layer : Int) (name : ByteArray) (ver : Int) (a b : Value) (w : World) (ha : FRow encRef 3 w a es) (hb : TextsAt w b ps) :
    Calls Tryd.prog 28 #[.agg #[.int .i64 num, a, b], .int .i64 layer, .agg #[.string name, .int .i64 ver]] w fun e w' => e = .returned (.int .i64 (judO num es ps layer name ver)) ∧ Below w.heap.size w w' := by
  have HFa := hid ha
  have HFb := hid hb
  have CM := hid (fun W => meas_spec layer name ver W)
  have CP := hid (fun W x1 x2 => pol_spec num es hn ps hm hs a b W x1 x2)
  have CH := hid (fun W x => has_spec ps hm (measOut layer name.data.toList ver).2 b W x)
  unfold MadeOut at CM
  have HO : Hid (judO num es ps layer name ver = if polB num es ps = true ∧ (measOut layer name.data.toList ver).1 = true then (match rowO es layer name with | none => 2 | some e => sayO ps (measOut layer name.data.toList ver).2 ver e) else 1) := hid rfl
  obtain ⟨p, c, rfl, _, hrest⟩ := ha
  obtain ⟨q, d, rfl, hrest2⟩ := hb
  clear hrest hrest2 hs
  generalize judO num es ps layer name ver = ro at *
  generalize polB num es ps = pb at *
  generalize (measOut layer name.data.toList ver).1 = ok at *
  obtain ⟨t, ht⟩ : ∃ t, (measOut layer name.data.toList ver).2 = t := ⟨_, rfl⟩
  rw [ht] at CM CH HO
  have HKY : Hid (∀ e : RefD, isKey layer name e = (decide (e.x0 = layer) && (e.x1.toList == name.toList))) := hid (fun e => by
    unfold isKey
    congr 1
    rw [Lib.toList_data, Lib.toList_data, Bool.eq_iff_iff, beq_iff_eq, decide_eq_true_iff])
  clear ht
  have HB0_0 : Hid (Below w.heap.size w w) := hid (Below.refl _ _)
  have hz0 : w.heap.size ≤ w.heap.size := Nat.le_refl _
  obtain ⟨w1, hw1⟩ : ∃ W, W = w.alloc (.cells #[.int .i64 num, .slice p es.length c, .slice q ps.length d] 54) := ⟨_, rfl⟩
  have hb1 : Below w.heap.size w w1 := by rw [hw1]; exact (Below.refl _ _).alloc (Nat.le_refl _) _
  have hz1 : w.heap.size < w1.heap.size := by rw [hw1]; simp
  have HVP_1 : Hid (w1.heap[w.heap.size]? = some (.cells #[.int .i64 num, .slice p es.length c, .slice q ps.length d] 54)) := hid (by rw [hw1]; exact heap_alloc_new _ _)
  have HW1 := hid hw1
  have HB0_1 := hid (HB0_0.out.trans (hb1.mono HB0_0.out.size))
  clear hw1 hb1
  obtain ⟨w2, hw2⟩ : ∃ W, W = w1.alloc (.cells #[.string name, .int .i64 ver] 56) := ⟨_, rfl⟩
  have hb2 : Below w1.heap.size w1 w2 := by rw [hw2]; exact (Below.refl _ _).alloc (Nat.le_refl _) _
  have hz2 : w1.heap.size < w2.heap.size := by rw [hw2]; simp
  have HVM_2 : Hid (w2.heap[w1.heap.size]? = some (.cells #[.string name, .int .i64 ver] 56)) := hid (by rw [hw2]; exact heap_alloc_new _ _)
  have HW2 := hid hw2
  have HB0_2 := hid (HB0_1.out.trans (hb2.mono HB0_1.out.size))
  have HVP_2 := hid ((hb2.block _ (by omega)).trans HVP_1.out)
  clear HB0_1
  clear hw2 hb2
  have hzL : w1.heap.size = w.heap.size + 1 := by rw [HW1.out]; simp
  have hzL2 : w.heap.size + 1 < w2.heap.size := by omega
  rw [hzL] at HVM_2
  clear hzL
  cases pb with
  | false =>
    have HZ : Hid (ro = 1) := hid (by rw [HO.out, if_neg (fun h => by cases h.1)])
    clear HO
    cases ok with
    | false =>
      rw [if_neg (by decide)] at CM
      go_enter Tryd.func28, Tryd.ntmps28
      go_wp2_with (go_at_call 69; rw [← HW1.out]; rw [← HW2.out]; refine (CM.out _).mono ?_; rintro e w3 ⟨rfl, hb3⟩; refine Hid.out ?_)
      refine hid ?_
      clear HVP_1
      have hz3 := hb3.size
      have HB0_3 := hid (HB0_2.out.trans (hb3.mono HB0_2.out.size))
      have HVP_3 := hid ((hb3.block _ (by omega)).trans HVP_2.out)
      have HVM_3 := hid ((hb3.block _ (by omega)).trans HVM_2.out)
      clear HB0_2 HVP_2 HVM_2
      clear hb3
      have k_P_0 := (cell_of_row _ _ 0 _ _ _ HVP_3.out).trans rfl
      have k_P_1 := (cell_of_row _ _ 1 _ _ _ HVP_3.out).trans rfl
      have k_P_2 := (cell_of_row _ _ 2 _ _ _ HVP_3.out).trans rfl
      go_wp2_with (go_at_call 70; refine (CP.out _ (HFa.out.on HB0_3.out) (HFb.out.on HB0_3.out)).mono ?_; rintro e w4 ⟨rfl, hb4⟩; refine Hid.out ?_)
      refine hid ?_
      clear k_P_0 k_P_1 k_P_2
      have hz4 := hb4.size
      have HB0_4 := hid (HB0_3.out.trans (hb4.mono HB0_3.out.size))
      have HVP_4 := hid ((hb4.block _ (by omega)).trans HVP_3.out)
      have HVM_4 := hid ((hb4.block _ (by omega)).trans HVM_3.out)
      clear HB0_3 HVP_3 HVM_3
      clear hb4
      go_wp2
      go_ret
      exact ⟨by rw [HZ.out] <;> rfl, HB0_4.out⟩
    | true =>
      rw [if_pos rfl] at CM
      go_enter Tryd.func28, Tryd.ntmps28
      go_wp2_with (go_at_call 69; rw [← HW1.out]; rw [← HW2.out]; refine (CM.out _).mono ?_; rintro e w3 ⟨rfl, hb3⟩; refine Hid.out ?_)
      refine hid ?_
      clear HVP_1
      have hz3 := hb3.size
      have HB0_3 := hid (HB0_2.out.trans (hb3.mono HB0_2.out.size))
      have HVP_3 := hid ((hb3.block _ (by omega)).trans HVP_2.out)
      have HVM_3 := hid ((hb3.block _ (by omega)).trans HVM_2.out)
      clear HB0_2 HVP_2 HVM_2
      clear hb3
      have k_P_0 := (cell_of_row _ _ 0 _ _ _ HVP_3.out).trans rfl
      have k_P_1 := (cell_of_row _ _ 1 _ _ _ HVP_3.out).trans rfl
      have k_P_2 := (cell_of_row _ _ 2 _ _ _ HVP_3.out).trans rfl
      go_wp2_with (go_at_call 70; refine (CP.out _ (HFa.out.on HB0_3.out) (HFb.out.on HB0_3.out)).mono ?_; rintro e w4 ⟨rfl, hb4⟩; refine Hid.out ?_)
      refine hid ?_
      clear k_P_0 k_P_1 k_P_2
      have hz4 := hb4.size
      have HB0_4 := hid (HB0_3.out.trans (hb4.mono HB0_3.out.size))
      have HVP_4 := hid ((hb4.block _ (by omega)).trans HVP_3.out)
      have HVM_4 := hid ((hb4.block _ (by omega)).trans HVM_3.out)
      clear HB0_3 HVP_3 HVM_3
      clear hb4
      go_wp2
      go_ret
      exact ⟨by rw [HZ.out] <;> rfl, HB0_4.out⟩
  | true =>
    cases ok with
    | false =>
      have HZ : Hid (ro = 1) := hid (by rw [HO.out, if_neg (fun h => by cases h.2)])
      clear HO
      rw [if_neg (by decide)] at CM
      go_enter Tryd.func28, Tryd.ntmps28
      go_wp2_with (go_at_call 69; rw [← HW1.out]; rw [← HW2.out]; refine (CM.out _).mono ?_; rintro e w3 ⟨rfl, hb3⟩; refine Hid.out ?_)
      refine hid ?_
      clear HVP_1
      have hz3 := hb3.size
      have HB0_3 := hid (HB0_2.out.trans (hb3.mono HB0_2.out.size))
      have HVP_3 := hid ((hb3.block _ (by omega)).trans HVP_2.out)
      have HVM_3 := hid ((hb3.block _ (by omega)).trans HVM_2.out)
      clear HB0_2 HVP_2 HVM_2
      clear hb3
      have k_P_0 := (cell_of_row _ _ 0 _ _ _ HVP_3.out).trans rfl
      have k_P_1 := (cell_of_row _ _ 1 _ _ _ HVP_3.out).trans rfl
      have k_P_2 := (cell_of_row _ _ 2 _ _ _ HVP_3.out).trans rfl
      go_wp2_with (go_at_call 70; refine (CP.out _ (HFa.out.on HB0_3.out) (HFb.out.on HB0_3.out)).mono ?_; rintro e w4 ⟨rfl, hb4⟩; refine Hid.out ?_)
      refine hid ?_
      clear k_P_0 k_P_1 k_P_2
      have hz4 := hb4.size
      have HB0_4 := hid (HB0_3.out.trans (hb4.mono HB0_3.out.size))
      have HVP_4 := hid ((hb4.block _ (by omega)).trans HVP_3.out)
      have HVM_4 := hid ((hb4.block _ (by omega)).trans HVM_3.out)
      clear HB0_3 HVP_3 HVM_3
      clear hb4
      go_wp2
      go_ret
      exact ⟨by rw [HZ.out] <;> rfl, HB0_4.out⟩
    | true =>
      rw [if_pos ⟨rfl, rfl⟩] at HO
      rw [if_pos rfl] at CM
      obtain ⟨y, hy⟩ : ∃ y, bytesOf t = y := ⟨_, rfl⟩
      rw [hy] at CM CH
      clear hy
      go_enter Tryd.func28, Tryd.ntmps28
      go_wp2_with (go_at_call 69; rw [← HW1.out]; rw [← HW2.out]; refine (CM.out _).mono ?_; rintro e w3 ⟨rfl, hb3⟩; refine Hid.out ?_)
      refine hid ?_
      clear HVP_1
      have hz3 := hb3.size
      have HB0_3 := hid (HB0_2.out.trans (hb3.mono HB0_2.out.size))
      have HVP_3 := hid ((hb3.block _ (by omega)).trans HVP_2.out)
      have HVM_3 := hid ((hb3.block _ (by omega)).trans HVM_2.out)
      clear HB0_2 HVP_2 HVM_2
      clear hb3
      have k_P_0 := (cell_of_row _ _ 0 _ _ _ HVP_3.out).trans rfl
      have k_P_1 := (cell_of_row _ _ 1 _ _ _ HVP_3.out).trans rfl
      have k_P_2 := (cell_of_row _ _ 2 _ _ _ HVP_3.out).trans rfl
      go_wp2_with (go_at_call 70; refine (CP.out _ (HFa.out.on HB0_3.out) (HFb.out.on HB0_3.out)).mono ?_; rintro e w4 ⟨rfl, hb4⟩; refine Hid.out ?_)
      refine hid ?_
      clear k_P_0 k_P_1 k_P_2
      have hz4 := hb4.size
      have HB0_4 := hid (HB0_3.out.trans (hb4.mono HB0_3.out.size))
      have HVP_4 := hid ((hb4.block _ (by omega)).trans HVP_3.out)
      have HVM_4 := hid ((hb4.block _ (by omega)).trans HVM_3.out)
      clear HB0_3 HVP_3 HVM_3
      clear hb4
      have HBX := HB0_4.out
      have HPX := HVP_4.out
      have HMX := HVM_4.out
      go_wp2
      go_loopw [9] (fun iv wr => ∃ i : Nat, i ≤ es.length ∧ iv = .int .i64 i ∧ Below w.heap.size w wr ∧ wr.heap[w.heap.size]? = some (.cells #[.int .i64 num, .slice p es.length c, .slice q ps.length d] 54) ∧ wr.heap[w.heap.size + 1]? = some (.cells #[.string name, .int .i64 ver] 56) ∧ Hid (rowO es layer name = (es.drop i).find? (isKey layer name))) (fun iv _ => es.length - (RowKit.intOf iv).toNat)
      case atStart => exact ⟨0, Nat.zero_le _, rfl, HBX, HPX, HMX, hid rfl⟩
      case round =>
        obtain ⟨i, hi, rfl, hbel, hbox, hmox, HP⟩ := hrel
        have HB := hid hbel
        have HX := hid hbox
        have HY := hid hmox
        obtain ⟨k0, k1, k2⟩ := three_refs hbox
        have n0 := (cell_of_row _ _ 0 _ _ _ hmox).trans rfl
        have n1 := (cell_of_row _ _ 1 _ _ _ hmox).trans rfl
        have hzr : w.heap.size < wr.heap.size := (Array.getElem?_eq_some_iff.1 hbox).1
        have hzm : w.heap.size + 1 < wr.heap.size := (Array.getElem?_eq_some_iff.1 hmox).1
        by_cases hlt : i < es.length
        · have hne : es ≠ [] := fun h => by rw [h] at hlt; cases hlt
          obtain ⟨p', c', hv, _, hp⟩ := HFa.out
          obtain ⟨rfl, rfl⟩ : p = p' ∧ c = c' := by injection hv with h1 h2 h3; exact ⟨h1, by omega⟩
          obtain ⟨g, o, rfl, hg, hc⟩ := hp hne
          clear hv hp
          have b1 : (0 : Int) ≤ (i : Int) := by omega
          have b2 : (i : Int) < (es.length : Int) := by omega
          have hgw : g < wr.heap.size := Nat.lt_of_lt_of_le hg hbel.size
          have m0 : wr.cell? ⟨g, o + i * 3, none⟩ = some (.int .i64 es[i].x0) := (hbel.cell (p := ⟨g, o + i * 3, none⟩) hg).trans (hc i hlt 0 (by decide))
          have m1 : wr.cell? ⟨g, o + i * 3 + 1, none⟩ = some (.string es[i].x1) := (hbel.cell (p := ⟨g, o + i * 3 + 1, none⟩) hg).trans (hc i hlt 1 (by decide))
          have m2 : wr.cell? ⟨g, o + i * 3 + 2, none⟩ = some (.int .i64 es[i].x2) := (hbel.cell (p := ⟨g, o + i * 3 + 2, none⟩) hg).trans (hc i hlt 2 (by decide))
          have HST := hid (find_step hlt HP.out)
          have HHE := hid (find_here hlt HP.out)
          have HKE := hid (HKY.out es[i])
          clear hc hbel hbox hmox HP HKY
          generalize es[i] = ei at *
          obtain ⟨x0, x1, x2⟩ := ei
          dsimp only at *
          by_cases hx0 : x0 = layer
          · have hq0 : (x0 != layer) = false := by simpa using hx0
            rw [decide_eq_true hx0, Bool.true_and] at HKE
            clear hx0
            cases hnm : (x1.toList == name.toList) with
            | false =>
              have hky : isKey layer name ⟨x0, x1, x2⟩ = false := HKE.out.trans hnm
              clear HKE HHE
              have j1 : ∀ W : World, Below wr.heap.size wr W → W.cell? ⟨w.heap.size, 1, none⟩ = some (.slice (some ⟨g, o, none⟩) es.length c) := fun W hW => (hW.cell (p := ⟨w.heap.size, 1, none⟩) hzr).trans k1
              have i0 : ∀ W : World, Below wr.heap.size wr W → W.cell? ⟨w.heap.size + 1, 0, none⟩ = some (.string name) := fun W hW => (hW.cell (p := ⟨w.heap.size + 1, 0, none⟩) hzm).trans n0
              have l0 : ∀ W : World, Below wr.heap.size wr W → W.cell? ⟨g, o + i * 3, none⟩ = some (.int .i64 x0) := fun W hW => (hW.cell (p := ⟨g, o + i * 3, none⟩) hgw).trans m0
              have l1 : ∀ W : World, Below wr.heap.size wr W → W.cell? ⟨g, o + i * 3 + 1, none⟩ = some (.string x1) := fun W hW => (hW.cell (p := ⟨g, o + i * 3 + 1, none⟩) hgw).trans m1
              go_wp2
              refine wp_region_held_drew (S := fun w' => Below wr.heap.size wr w') (by kernel_rfl) (Below.drew (Below.refl _ _)) (fun hHeld => ?_)
              refine take_dst (i := 0) 30 (v := ?_) rfl rfl (by kernel_rfl) (by kernel_rfl) (by kernel_rfl) (fun _ _ _ h => h) (Or.inl ⟨by rfl, ?_⟩) (by assumption) ?_
              case refine_2 => ((intro w hSw); (try dsimp only at hSw); go_simp; (try with_reducible rfl))
              try simp only [Act.put, List.setIfInBounds_toArray, List.set_cons_zero, List.set_cons_succ]
              refine take_dst (i := 1) 31 (v := ?_) rfl rfl (by kernel_rfl) (by kernel_rfl) (by kernel_rfl) (fun _ _ _ h => h) (Or.inl ⟨by rfl, ?_⟩) (by assumption) ?_
              case refine_2 => ((intro w hSw); (try dsimp only at hSw); go_simp; (try with_reducible rfl))
              try simp only [Act.put, List.setIfInBounds_toArray, List.set_cons_zero, List.set_cons_succ]
              refine take_dst (i := 2) 32 (v := ?_) rfl rfl (by kernel_rfl) (by kernel_rfl) (by kernel_rfl) (fun _ _ _ h => h) (Or.inl ⟨by rfl, ?_⟩) (by assumption) ?_
              case refine_2 => ((intro w hSw); (try dsimp only at hSw); go_simp; (try with_reducible rfl))
              try simp only [Act.put, List.setIfInBounds_toArray, List.set_cons_zero, List.set_cons_succ]
              refine take_dst (i := 3) 33 (v := ?_) rfl rfl (by kernel_rfl) (by kernel_rfl) (by kernel_rfl) (fun _ _ _ h => h) (Or.inl ⟨by rfl, ?_⟩) (by assumption) ?_
              case refine_2 => ((intro w hSw); (try dsimp only at hSw); go_simp; (try with_reducible rfl))
              try simp only [Act.put, List.setIfInBounds_toArray, List.set_cons_zero, List.set_cons_succ]
              refine take_dst (i := 4) 34 (v := ?_) rfl rfl (by kernel_rfl) (by kernel_rfl) (by kernel_rfl) (fun _ _ _ h => h) (Or.inl ⟨by rfl, ?_⟩) (by assumption) ?_
              case refine_2 => ((intro w hSw); (try dsimp only at hSw); go_simp; (try with_reducible rfl))
              try simp only [Act.put, List.setIfInBounds_toArray, List.set_cons_zero, List.set_cons_succ]
              refine take_dst (i := 5) 35 (v := ?_) rfl rfl (by kernel_rfl) (by kernel_rfl) (by kernel_rfl) (fun _ _ _ h => h) (Or.inl ⟨by rfl, ?_⟩) (by assumption) ?_
              case refine_2 => ((intro w hSw); (try dsimp only at hSw); go_simp; (try with_reducible rfl))
              try simp only [Act.put, List.setIfInBounds_toArray, List.set_cons_zero, List.set_cons_succ]
              refine take_dst (i := 6) 36 (v := ?_) rfl rfl (by kernel_rfl) (by kernel_rfl) (by kernel_rfl) (fun _ _ _ h => h) (Or.inl ⟨by rfl, ?_⟩) (by assumption) ?_
              case refine_2 => ((intro w hSw); (try dsimp only at hSw); go_simp; (try with_reducible rfl))
              try simp only [Act.put, List.setIfInBounds_toArray, List.set_cons_zero, List.set_cons_succ]
              refine take_dst (i := 7) 37 (v := ?_) rfl rfl (by kernel_rfl) (by kernel_rfl) (by kernel_rfl) (fun _ _ _ h => h) (Or.inl ⟨by rfl, ?_⟩) (by assumption) ?_
              case refine_2 => ((intro w hSw); (try dsimp only at hSw); go_simp; (try with_reducible rfl))
              try simp only [Act.put, List.setIfInBounds_toArray, List.set_cons_zero, List.set_cons_succ]
              refine take_dst (i := 8) 38 (v := ?_) rfl rfl (by kernel_rfl) (by kernel_rfl) (by kernel_rfl) (fun _ _ _ h => h) (Or.inl ⟨by rfl, ?_⟩) (by assumption) ?_
              case refine_2 => ((intro w hSw); (try dsimp only at hSw); go_simp; (try with_reducible rfl))
              try simp only [Act.put, List.setIfInBounds_toArray, List.set_cons_zero, List.set_cons_succ]
              refine take_dst (i := 9) 39 (v := ?_) rfl rfl (by kernel_rfl) (by kernel_rfl) (by kernel_rfl) (fun _ _ _ h => h) (Or.inl ⟨by rfl, ?_⟩) (by assumption) ?_
              case refine_2 => ((intro w hSw); (try dsimp only at hSw); go_simp; (try with_reducible rfl))
              try simp only [Act.put, List.setIfInBounds_toArray, List.set_cons_zero, List.set_cons_succ]
              refine take_dst (i := 10) 40 (v := ?_) rfl rfl (by kernel_rfl) (by kernel_rfl) (by kernel_rfl) (fun _ _ _ h => h) (Or.inl ⟨by rfl, ?_⟩) (by assumption) ?_
              case refine_2 => ((intro w hSw); (try dsimp only at hSw); go_simp; (try with_reducible rfl))
              try simp only [Act.put, List.setIfInBounds_toArray, List.set_cons_zero, List.set_cons_succ]
              refine take_dst (i := 11) 41 (v := ?_) rfl rfl (by kernel_rfl) (by kernel_rfl) (by kernel_rfl) (fun _ _ _ h => h) (Or.inl ⟨by rfl, ?_⟩) (by assumption) ?_
              case refine_2 => ((intro w hSw); (try dsimp only at hSw); go_simp; (try with_reducible rfl))
              try simp only [Act.put, List.setIfInBounds_toArray, List.set_cons_zero, List.set_cons_succ]
              refine take_dst (i := 12) 42 (v := ?_) rfl rfl (by kernel_rfl) (by kernel_rfl) (by kernel_rfl) (fun _ _ _ h => h) (Or.inl ⟨by rfl, ?_⟩) (by assumption) ?_
              case refine_2 => ((intro w hSw); (try dsimp only at hSw); go_simp; (try with_reducible rfl))
              try simp only [Act.put, List.setIfInBounds_toArray, List.set_cons_zero, List.set_cons_succ]
              refine take_dst (i := 13) 43 (v := ?_) rfl rfl (by kernel_rfl) (by kernel_rfl) (by kernel_rfl) (fun _ _ _ h => h) (Or.inl ⟨by rfl, ?_⟩) (by assumption) ?_
              case refine_2 => ((intro w hSw); (try dsimp only at hSw); go_simp; (try with_reducible rfl))
              try simp only [Act.put, List.setIfInBounds_toArray, List.set_cons_zero, List.set_cons_succ]
              refine take_dst (i := 14) 44 (v := ?_) rfl rfl (by kernel_rfl) (by kernel_rfl) (by kernel_rfl) (fun _ _ _ h => h) (Or.inl ⟨by rfl, ?_⟩) (by assumption) ?_
              case refine_2 => ((intro w hSw); (try dsimp only at hSw); go_simp; (try with_reducible rfl))
              try simp only [Act.put, List.setIfInBounds_toArray, List.set_cons_zero, List.set_cons_succ]
              refine take_dst (i := 15) 45 (v := ?_) rfl rfl (by kernel_rfl) (by kernel_rfl) (by kernel_rfl) (fun _ _ _ h => h) (Or.inl ⟨by rfl, ?_⟩) (by assumption) ?_
              case refine_2 => ((intro w hSw); (try dsimp only at hSw); go_simp; (try with_reducible rfl))
              try simp only [Act.put, List.setIfInBounds_toArray, List.set_cons_zero, List.set_cons_succ]
              refine take_dst (i := 16) 46 (v := ?_) rfl rfl (by kernel_rfl) (by kernel_rfl) (by kernel_rfl) (fun _ _ _ h => h) (Or.inl ⟨by rfl, ?_⟩) (by assumption) ?_
              case refine_2 => ((intro w hSw); (try dsimp only at hSw); go_simp; (try with_reducible rfl))
              try simp only [Act.put, List.setIfInBounds_toArray, List.set_cons_zero, List.set_cons_succ]
              refine take_dst (i := 17) 47 (v := ?_) rfl rfl (by kernel_rfl) (by kernel_rfl) (by kernel_rfl) (fun _ _ _ h => h) (Or.inl ⟨by rfl, ?_⟩) (by assumption) ?_
              case refine_2 => ((intro w hSw); (try dsimp only at hSw); go_simp; (try with_reducible rfl))
              try simp only [Act.put, List.setIfInBounds_toArray, List.set_cons_zero, List.set_cons_succ]
              refine take_dst (i := 18) 48 (v := ?_) rfl rfl (by kernel_rfl) (by kernel_rfl) (by kernel_rfl) (fun _ _ _ h => h) (Or.inl ⟨by rfl, ?_⟩) (by assumption) ?_
              case refine_2 => ((intro w hSw); (try dsimp only at hSw); go_simp; (try with_reducible rfl))
              try simp only [Act.put, List.setIfInBounds_toArray, List.set_cons_zero, List.set_cons_succ]
              refine wpAnyH_done (by kernel_rfl) ?_ _
              have HB5 := hid (HB.out.trans (hHeld.mono HB.out.size))
              have HX5 := hid ((hHeld.block w.heap.size hzr).trans HX.out)
              have HY5 := hid ((hHeld.block (w.heap.size + 1) hzm).trans HY.out)
              clear hHeld j1 i0 l0 l1
              clear k0 k1 k2 n0 n1 m0 m1 m2
              go_wp2
              go_roundw
              case rel => exact ⟨i + 1, by omega, by go_num, HB5.out, HX5.out, HY5.out, hid (HST.out hky)⟩
              case measure => simp [RowKit.intOf]; omega
            | true =>
              have hky : isKey layer name ⟨x0, x1, x2⟩ = true := HKE.out.trans hnm
              have HM := hid (HHE.out hky)
              rw [HM.out] at HO
              dsimp only at HO
              have HSY : Hid (sayO ps t ver ⟨x0, x1, x2⟩ = if t ∈ ps then 3 else if ver < x2 then 4 else 0) := hid rfl
              clear HKE HHE HST hky HM
              have j1 : ∀ W : World, Below wr.heap.size wr W → W.cell? ⟨w.heap.size, 1, none⟩ = some (.slice (some ⟨g, o, none⟩) es.length c) := fun W hW => (hW.cell (p := ⟨w.heap.size, 1, none⟩) hzr).trans k1
              have i0 : ∀ W : World, Below wr.heap.size wr W → W.cell? ⟨w.heap.size + 1, 0, none⟩ = some (.string name) := fun W hW => (hW.cell (p := ⟨w.heap.size + 1, 0, none⟩) hzm).trans n0
              have l0 : ∀ W : World, Below wr.heap.size wr W → W.cell? ⟨g, o + i * 3, none⟩ = some (.int .i64 x0) := fun W hW => (hW.cell (p := ⟨g, o + i * 3, none⟩) hgw).trans m0
              have l1 : ∀ W : World, Below wr.heap.size wr W → W.cell? ⟨g, o + i * 3 + 1, none⟩ = some (.string x1) := fun W hW => (hW.cell (p := ⟨g, o + i * 3 + 1, none⟩) hgw).trans m1
              have HM2 : Hid (wr.drew.cell? ⟨g, o + i * 3 + 2, none⟩ = some (.int .i64 x2)) := hid (((Below.drew (Below.refl wr.heap.size wr)).cell (p := ⟨g, o + i * 3 + 2, none⟩) hgw).trans m2)
              go_wp2
              refine wp_region_held_drew (S := fun w' => Below wr.heap.size wr w') (by kernel_rfl) (Below.drew (Below.refl _ _)) (fun hHeld => ?_)
              refine take_dst (i := 0) 30 (v := ?_) rfl rfl (by kernel_rfl) (by kernel_rfl) (by kernel_rfl) (fun _ _ _ h => h) (Or.inl ⟨by rfl, ?_⟩) (by assumption) ?_
              case refine_2 => ((intro w hSw); (try dsimp only at hSw); go_simp; (try with_reducible rfl))
              try simp only [Act.put, List.setIfInBounds_toArray, List.set_cons_zero, List.set_cons_succ]
              refine take_dst (i := 1) 31 (v := ?_) rfl rfl (by kernel_rfl) (by kernel_rfl) (by kernel_rfl) (fun _ _ _ h => h) (Or.inl ⟨by rfl, ?_⟩) (by assumption) ?_
              case refine_2 => ((intro w hSw); (try dsimp only at hSw); go_simp; (try with_reducible rfl))
              try simp only [Act.put, List.setIfInBounds_toArray, List.set_cons_zero, List.set_cons_succ]
              refine take_dst (i := 2) 32 (v := ?_) rfl rfl (by kernel_rfl) (by kernel_rfl) (by kernel_rfl) (fun _ _ _ h => h) (Or.inl ⟨by rfl, ?_⟩) (by assumption) ?_
              case refine_2 => ((intro w hSw); (try dsimp only at hSw); go_simp; (try with_reducible rfl))
              try simp only [Act.put, List.setIfInBounds_toArray, List.set_cons_zero, List.set_cons_succ]
              refine take_dst (i := 3) 33 (v := ?_) rfl rfl (by kernel_rfl) (by kernel_rfl) (by kernel_rfl) (fun _ _ _ h => h) (Or.inl ⟨by rfl, ?_⟩) (by assumption) ?_
              case refine_2 => ((intro w hSw); (try dsimp only at hSw); go_simp; (try with_reducible rfl))
              try simp only [Act.put, List.setIfInBounds_toArray, List.set_cons_zero, List.set_cons_succ]
              refine take_dst (i := 4) 34 (v := ?_) rfl rfl (by kernel_rfl) (by kernel_rfl) (by kernel_rfl) (fun _ _ _ h => h) (Or.inl ⟨by rfl, ?_⟩) (by assumption) ?_
              case refine_2 => ((intro w hSw); (try dsimp only at hSw); go_simp; (try with_reducible rfl))
              try simp only [Act.put, List.setIfInBounds_toArray, List.set_cons_zero, List.set_cons_succ]
              refine take_dst (i := 5) 35 (v := ?_) rfl rfl (by kernel_rfl) (by kernel_rfl) (by kernel_rfl) (fun _ _ _ h => h) (Or.inl ⟨by rfl, ?_⟩) (by assumption) ?_
              case refine_2 => ((intro w hSw); (try dsimp only at hSw); go_simp; (try with_reducible rfl))
              try simp only [Act.put, List.setIfInBounds_toArray, List.set_cons_zero, List.set_cons_succ]
              refine take_dst (i := 6) 36 (v := ?_) rfl rfl (by kernel_rfl) (by kernel_rfl) (by kernel_rfl) (fun _ _ _ h => h) (Or.inl ⟨by rfl, ?_⟩) (by assumption) ?_
              case refine_2 => ((intro w hSw); (try dsimp only at hSw); go_simp; (try with_reducible rfl))
              try simp only [Act.put, List.setIfInBounds_toArray, List.set_cons_zero, List.set_cons_succ]
              refine take_dst (i := 7) 37 (v := ?_) rfl rfl (by kernel_rfl) (by kernel_rfl) (by kernel_rfl) (fun _ _ _ h => h) (Or.inl ⟨by rfl, ?_⟩) (by assumption) ?_
              case refine_2 => ((intro w hSw); (try dsimp only at hSw); go_simp; (try with_reducible rfl))
              try simp only [Act.put, List.setIfInBounds_toArray, List.set_cons_zero, List.set_cons_succ]
              refine take_dst (i := 8) 38 (v := ?_) rfl rfl (by kernel_rfl) (by kernel_rfl) (by kernel_rfl) (fun _ _ _ h => h) (Or.inl ⟨by rfl, ?_⟩) (by assumption) ?_
              case refine_2 => ((intro w hSw); (try dsimp only at hSw); go_simp; (try with_reducible rfl))
              try simp only [Act.put, List.setIfInBounds_toArray, List.set_cons_zero, List.set_cons_succ]
              refine take_dst (i := 9) 39 (v := ?_) rfl rfl (by kernel_rfl) (by kernel_rfl) (by kernel_rfl) (fun _ _ _ h => h) (Or.inl ⟨by rfl, ?_⟩) (by assumption) ?_
              case refine_2 => ((intro w hSw); (try dsimp only at hSw); go_simp; (try with_reducible rfl))
              try simp only [Act.put, List.setIfInBounds_toArray, List.set_cons_zero, List.set_cons_succ]
              refine take_dst (i := 10) 40 (v := ?_) rfl rfl (by kernel_rfl) (by kernel_rfl) (by kernel_rfl) (fun _ _ _ h => h) (Or.inl ⟨by rfl, ?_⟩) (by assumption) ?_
              case refine_2 => ((intro w hSw); (try dsimp only at hSw); go_simp; (try with_reducible rfl))
              try simp only [Act.put, List.setIfInBounds_toArray, List.set_cons_zero, List.set_cons_succ]
              refine take_dst (i := 11) 41 (v := ?_) rfl rfl (by kernel_rfl) (by kernel_rfl) (by kernel_rfl) (fun _ _ _ h => h) (Or.inl ⟨by rfl, ?_⟩) (by assumption) ?_
              case refine_2 => ((intro w hSw); (try dsimp only at hSw); go_simp; (try with_reducible rfl))
              try simp only [Act.put, List.setIfInBounds_toArray, List.set_cons_zero, List.set_cons_succ]
              refine take_dst (i := 12) 42 (v := ?_) rfl rfl (by kernel_rfl) (by kernel_rfl) (by kernel_rfl) (fun _ _ _ h => h) (Or.inl ⟨by rfl, ?_⟩) (by assumption) ?_
              case refine_2 => ((intro w hSw); (try dsimp only at hSw); go_simp; (try with_reducible rfl))
              try simp only [Act.put, List.setIfInBounds_toArray, List.set_cons_zero, List.set_cons_succ]
              refine take_dst (i := 13) 43 (v := ?_) rfl rfl (by kernel_rfl) (by kernel_rfl) (by kernel_rfl) (fun _ _ _ h => h) (Or.inl ⟨by rfl, ?_⟩) (by assumption) ?_
              case refine_2 => ((intro w hSw); (try dsimp only at hSw); go_simp; (try with_reducible rfl))
              try simp only [Act.put, List.setIfInBounds_toArray, List.set_cons_zero, List.set_cons_succ]
              refine take_dst (i := 14) 44 (v := ?_) rfl rfl (by kernel_rfl) (by kernel_rfl) (by kernel_rfl) (fun _ _ _ h => h) (Or.inl ⟨by rfl, ?_⟩) (by assumption) ?_
              case refine_2 => ((intro w hSw); (try dsimp only at hSw); go_simp; (try with_reducible rfl))
              try simp only [Act.put, List.setIfInBounds_toArray, List.set_cons_zero, List.set_cons_succ]
              refine take_dst (i := 15) 45 (v := ?_) rfl rfl (by kernel_rfl) (by kernel_rfl) (by kernel_rfl) (fun _ _ _ h => h) (Or.inl ⟨by rfl, ?_⟩) (by assumption) ?_
              case refine_2 => ((intro w hSw); (try dsimp only at hSw); go_simp; (try with_reducible rfl))
              try simp only [Act.put, List.setIfInBounds_toArray, List.set_cons_zero, List.set_cons_succ]
              refine take_dst (i := 16) 46 (v := ?_) rfl rfl (by kernel_rfl) (by kernel_rfl) (by kernel_rfl) (fun _ _ _ h => h) (Or.inl ⟨by rfl, ?_⟩) (by assumption) ?_
              case refine_2 => ((intro w hSw); (try dsimp only at hSw); go_simp; (try with_reducible rfl))
              try simp only [Act.put, List.setIfInBounds_toArray, List.set_cons_zero, List.set_cons_succ]
              refine take_dst (i := 17) 47 (v := ?_) rfl rfl (by kernel_rfl) (by kernel_rfl) (by kernel_rfl) (fun _ _ _ h => h) (Or.inl ⟨by rfl, ?_⟩) (by assumption) ?_
              case refine_2 => ((intro w hSw); (try dsimp only at hSw); go_simp; (try with_reducible rfl))
              try simp only [Act.put, List.setIfInBounds_toArray, List.set_cons_zero, List.set_cons_succ]
              refine take_dst (i := 18) 48 (v := ?_) rfl rfl (by kernel_rfl) (by kernel_rfl) (by kernel_rfl) (fun _ _ _ h => h) (Or.inl ⟨by rfl, ?_⟩) (by assumption) ?_
              case refine_2 => ((intro w hSw); (try dsimp only at hSw); go_simp; (try with_reducible rfl))
              try simp only [Act.put, List.setIfInBounds_toArray, List.set_cons_zero, List.set_cons_succ]
              refine wpAnyH_done (by kernel_rfl) ?_ _
              have HB5 := hid (HB.out.trans (hHeld.mono HB.out.size))
              have HX5 := hid ((hHeld.block w.heap.size hzr).trans HX.out)
              have HY5 := hid ((hHeld.block (w.heap.size + 1) hzm).trans HY.out)
              clear hHeld j1 i0 l0 l1
              clear k0 k1 k2 n0 n1 m0 m1 m2
              obtain ⟨k0, k1, k2⟩ := three_refs HX5.out
              have m2 : wr.drew.cell? ⟨g, o + i * 3 + 2, none⟩ = some (.int .i64 x2) := HM2.out
              go_wp2_with (go_at_call 71; refine (CH.out _ (HFb.out.on HB5.out)).mono ?_; rintro e w8 ⟨rfl, hb8⟩; refine Hid.out ?_)
              refine hid ?_
              have HB8 := hid (HB5.out.trans (hb8.mono HB5.out.size))
              have HX8 := hid ((hb8.block w.heap.size (by simpa using hzr)).trans HX5.out)
              have HY8 := hid ((hb8.block (w.heap.size + 1) (by simpa using hzm)).trans HY5.out)
              have M8 := hid ((hb8.cell (p := ⟨g, o + i * 3 + 2, none⟩) (by simpa using hgw)).trans m2)
              have hz8 : wr.heap.size ≤ w8.heap.size := by simpa using hb8.size
              clear hb8 k0 k1 k2 m2
              by_cases hin : t ∈ ps
              · rw [decide_eq_true hin]
                have HZ : Hid (ro = 3) := hid (by rw [HO.out, HSY.out, if_pos hin])
                clear hin
                go_wp2
                go_ret
                exact ⟨by rw [HZ.out] <;> rfl, HB8.out⟩
              · rw [decide_eq_false hin]
                rw [HSY.out, if_neg hin] at HO
                clear hin HSY
                obtain ⟨k0, k1, k2⟩ := three_refs HX8.out
                have n1 := (cell_of_row _ _ 1 _ _ _ HY8.out).trans rfl
                have j1 : ∀ W : World, Below w8.heap.size w8 W → W.cell? ⟨w.heap.size, 1, none⟩ = some (.slice (some ⟨g, o, none⟩) es.length c) := fun W hW => (hW.cell (p := ⟨w.heap.size, 1, none⟩) (by show w.heap.size < _; omega)).trans k1
                have i1 : ∀ W : World, Below w8.heap.size w8 W → W.cell? ⟨w.heap.size + 1, 1, none⟩ = some (.int .i64 ver) := fun W hW => (hW.cell (p := ⟨w.heap.size + 1, 1, none⟩) (by show w.heap.size + 1 < _; omega)).trans n1
                have l2 : ∀ W : World, Below w8.heap.size w8 W → W.cell? ⟨g, o + i * 3 + 2, none⟩ = some (.int .i64 x2) := fun W hW => (hW.cell (p := ⟨g, o + i * 3 + 2, none⟩) (by show g < _; omega)).trans M8.out
                by_cases hv : ver < x2
                · have HZ : Hid (ro = 4) := hid (by rw [HO.out, if_pos hv])
                  go_wp2
                  refine wp_region_held_drew (S := fun w' => Below w8.heap.size w8 w') (by kernel_rfl) (Below.drew (Below.refl _ _)) (fun hHeld => ?_)
                  refine take_dst (i := 0) 53 (v := ?_) rfl rfl (by kernel_rfl) (by kernel_rfl) (by kernel_rfl) (fun _ _ _ h => h) (Or.inl ⟨by rfl, ?_⟩) (by assumption) ?_
                  case refine_2 => ((intro w hSw); (try dsimp only at hSw); go_simp; (try with_reducible rfl))
                  try simp only [Act.put, List.setIfInBounds_toArray, List.set_cons_zero, List.set_cons_succ]
                  refine take_dst (i := 1) 54 (v := ?_) rfl rfl (by kernel_rfl) (by kernel_rfl) (by kernel_rfl) (fun _ _ _ h => h) (Or.inl ⟨by rfl, ?_⟩) (by assumption) ?_
                  case refine_2 => ((intro w hSw); (try dsimp only at hSw); go_simp; (try with_reducible rfl))
                  try simp only [Act.put, List.setIfInBounds_toArray, List.set_cons_zero, List.set_cons_succ]
                  refine take_dst (i := 2) 55 (v := ?_) rfl rfl (by kernel_rfl) (by kernel_rfl) (by kernel_rfl) (fun _ _ _ h => h) (Or.inl ⟨by rfl, ?_⟩) (by assumption) ?_
                  case refine_2 => ((intro w hSw); (try dsimp only at hSw); go_simp; (try with_reducible rfl))
                  try simp only [Act.put, List.setIfInBounds_toArray, List.set_cons_zero, List.set_cons_succ]
                  refine take_dst (i := 3) 56 (v := ?_) rfl rfl (by kernel_rfl) (by kernel_rfl) (by kernel_rfl) (fun _ _ _ h => h) (Or.inl ⟨by rfl, ?_⟩) (by assumption) ?_
                  case refine_2 => ((intro w hSw); (try dsimp only at hSw); go_simp; (try with_reducible rfl))
                  try simp only [Act.put, List.setIfInBounds_toArray, List.set_cons_zero, List.set_cons_succ]
                  refine take_dst (i := 4) 57 (v := ?_) rfl rfl (by kernel_rfl) (by kernel_rfl) (by kernel_rfl) (fun _ _ _ h => h) (Or.inl ⟨by rfl, ?_⟩) (by assumption) ?_
                  case refine_2 => ((intro w hSw); (try dsimp only at hSw); go_simp; (try with_reducible rfl))
                  try simp only [Act.put, List.setIfInBounds_toArray, List.set_cons_zero, List.set_cons_succ]
                  refine take_dst (i := 5) 58 (v := ?_) rfl rfl (by kernel_rfl) (by kernel_rfl) (by kernel_rfl) (fun _ _ _ h => h) (Or.inl ⟨by rfl, ?_⟩) (by assumption) ?_
                  case refine_2 => ((intro w hSw); (try dsimp only at hSw); go_simp; (try with_reducible rfl))
                  try simp only [Act.put, List.setIfInBounds_toArray, List.set_cons_zero, List.set_cons_succ]
                  refine take_dst (i := 6) 59 (v := ?_) rfl rfl (by kernel_rfl) (by kernel_rfl) (by kernel_rfl) (fun _ _ _ h => h) (Or.inl ⟨by rfl, ?_⟩) (by assumption) ?_
                  case refine_2 => ((intro w hSw); (try dsimp only at hSw); go_simp; (try with_reducible rfl))
                  try simp only [Act.put, List.setIfInBounds_toArray, List.set_cons_zero, List.set_cons_succ]
                  refine take_dst (i := 7) 60 (v := ?_) rfl rfl (by kernel_rfl) (by kernel_rfl) (by kernel_rfl) (fun _ _ _ h => h) (Or.inl ⟨by rfl, ?_⟩) (by assumption) ?_
                  case refine_2 => ((intro w hSw); (try dsimp only at hSw); go_simp; (try with_reducible rfl))
                  try simp only [Act.put, List.setIfInBounds_toArray, List.set_cons_zero, List.set_cons_succ]
                  refine take_dst (i := 8) 61 (v := ?_) rfl rfl (by kernel_rfl) (by kernel_rfl) (by kernel_rfl) (fun _ _ _ h => h) (Or.inl ⟨by rfl, ?_⟩) (by assumption) ?_
                  case refine_2 => ((intro w hSw); (try dsimp only at hSw); go_simp; (try with_reducible rfl))
                  try simp only [Act.put, List.setIfInBounds_toArray, List.set_cons_zero, List.set_cons_succ]
                  refine wpAnyH_done (by kernel_rfl) ?_ _
                  have HB9 := hid (HB8.out.trans (hHeld.mono HB8.out.size))
                  clear hHeld j1 i1 l2
                  go_wp2
                  go_ret
                  exact ⟨by rw [HZ.out] <;> rfl, HB9.out⟩
                · have HZ : Hid (ro = 0) := hid (by rw [HO.out, if_neg hv])
                  have hv2 : decide (ver < x2) = false := decide_eq_false hv
                  go_wp2
                  refine wp_region_held_drew (S := fun w' => Below w8.heap.size w8 w') (by kernel_rfl) (Below.drew (Below.refl _ _)) (fun hHeld => ?_)
                  refine take_dst (i := 0) 53 (v := ?_) rfl rfl (by kernel_rfl) (by kernel_rfl) (by kernel_rfl) (fun _ _ _ h => h) (Or.inl ⟨by rfl, ?_⟩) (by assumption) ?_
                  case refine_2 => ((intro w hSw); (try dsimp only at hSw); go_simp; (try with_reducible rfl))
                  try simp only [Act.put, List.setIfInBounds_toArray, List.set_cons_zero, List.set_cons_succ]
                  refine take_dst (i := 1) 54 (v := ?_) rfl rfl (by kernel_rfl) (by kernel_rfl) (by kernel_rfl) (fun _ _ _ h => h) (Or.inl ⟨by rfl, ?_⟩) (by assumption) ?_
                  case refine_2 => ((intro w hSw); (try dsimp only at hSw); go_simp; (try with_reducible rfl))
                  try simp only [Act.put, List.setIfInBounds_toArray, List.set_cons_zero, List.set_cons_succ]
                  refine take_dst (i := 2) 55 (v := ?_) rfl rfl (by kernel_rfl) (by kernel_rfl) (by kernel_rfl) (fun _ _ _ h => h) (Or.inl ⟨by rfl, ?_⟩) (by assumption) ?_
                  case refine_2 => ((intro w hSw); (try dsimp only at hSw); go_simp; (try with_reducible rfl))
                  try simp only [Act.put, List.setIfInBounds_toArray, List.set_cons_zero, List.set_cons_succ]
                  refine take_dst (i := 3) 56 (v := ?_) rfl rfl (by kernel_rfl) (by kernel_rfl) (by kernel_rfl) (fun _ _ _ h => h) (Or.inl ⟨by rfl, ?_⟩) (by assumption) ?_
                  case refine_2 => ((intro w hSw); (try dsimp only at hSw); go_simp; (try with_reducible rfl))
                  try simp only [Act.put, List.setIfInBounds_toArray, List.set_cons_zero, List.set_cons_succ]
                  refine take_dst (i := 4) 57 (v := ?_) rfl rfl (by kernel_rfl) (by kernel_rfl) (by kernel_rfl) (fun _ _ _ h => h) (Or.inl ⟨by rfl, ?_⟩) (by assumption) ?_
                  case refine_2 => ((intro w hSw); (try dsimp only at hSw); go_simp; (try with_reducible rfl))
                  try simp only [Act.put, List.setIfInBounds_toArray, List.set_cons_zero, List.set_cons_succ]
                  refine take_dst (i := 5) 58 (v := ?_) rfl rfl (by kernel_rfl) (by kernel_rfl) (by kernel_rfl) (fun _ _ _ h => h) (Or.inl ⟨by rfl, ?_⟩) (by assumption) ?_
                  case refine_2 => ((intro w hSw); (try dsimp only at hSw); go_simp; (try with_reducible rfl))
                  try simp only [Act.put, List.setIfInBounds_toArray, List.set_cons_zero, List.set_cons_succ]
                  refine take_dst (i := 6) 59 (v := ?_) rfl rfl (by kernel_rfl) (by kernel_rfl) (by kernel_rfl) (fun _ _ _ h => h) (Or.inl ⟨by rfl, ?_⟩) (by assumption) ?_
                  case refine_2 => ((intro w hSw); (try dsimp only at hSw); go_simp; (try with_reducible rfl))
                  try simp only [Act.put, List.setIfInBounds_toArray, List.set_cons_zero, List.set_cons_succ]
                  refine take_dst (i := 7) 60 (v := ?_) rfl rfl (by kernel_rfl) (by kernel_rfl) (by kernel_rfl) (fun _ _ _ h => h) (Or.inl ⟨by rfl, ?_⟩) (by assumption) ?_
                  case refine_2 => ((intro w hSw); (try dsimp only at hSw); go_simp; (try with_reducible rfl))
                  try simp only [Act.put, List.setIfInBounds_toArray, List.set_cons_zero, List.set_cons_succ]
                  refine take_dst (i := 8) 61 (v := ?_) rfl rfl (by kernel_rfl) (by kernel_rfl) (by kernel_rfl) (fun _ _ _ h => h) (Or.inl ⟨by rfl, ?_⟩) (by assumption) ?_
                  case refine_2 => ((intro w hSw); (try dsimp only at hSw); go_simp; (try with_reducible rfl))
                  try simp only [Act.put, List.setIfInBounds_toArray, List.set_cons_zero, List.set_cons_succ]
                  refine wpAnyH_done (by kernel_rfl) ?_ _
                  have HB9 := hid (HB8.out.trans (hHeld.mono HB8.out.size))
                  clear hHeld j1 i1 l2
                  go_wp2
                  go_ret
                  exact ⟨by rw [HZ.out] <;> rfl, HB9.out⟩
          · have hq0 : (x0 != layer) = true := by simpa using hx0
            rw [decide_eq_false hx0, Bool.false_and] at HKE
            have hky : isKey layer name ⟨x0, x1, x2⟩ = false := HKE.out
            clear HKE HHE hx0
            have j1 : ∀ W : World, Below wr.heap.size wr W → W.cell? ⟨w.heap.size, 1, none⟩ = some (.slice (some ⟨g, o, none⟩) es.length c) := fun W hW => (hW.cell (p := ⟨w.heap.size, 1, none⟩) hzr).trans k1
            have i0 : ∀ W : World, Below wr.heap.size wr W → W.cell? ⟨w.heap.size + 1, 0, none⟩ = some (.string name) := fun W hW => (hW.cell (p := ⟨w.heap.size + 1, 0, none⟩) hzm).trans n0
            have l0 : ∀ W : World, Below wr.heap.size wr W → W.cell? ⟨g, o + i * 3, none⟩ = some (.int .i64 x0) := fun W hW => (hW.cell (p := ⟨g, o + i * 3, none⟩) hgw).trans m0
            have l1 : ∀ W : World, Below wr.heap.size wr W → W.cell? ⟨g, o + i * 3 + 1, none⟩ = some (.string x1) := fun W hW => (hW.cell (p := ⟨g, o + i * 3 + 1, none⟩) hgw).trans m1
            go_wp2
            refine wp_region_held_drew (S := fun w' => Below wr.heap.size wr w') (by kernel_rfl) (Below.drew (Below.refl _ _)) (fun hHeld => ?_)
            refine take_dst (i := 0) 30 (v := ?_) rfl rfl (by kernel_rfl) (by kernel_rfl) (by kernel_rfl) (fun _ _ _ h => h) (Or.inl ⟨by rfl, ?_⟩) (by assumption) ?_
            case refine_2 => ((intro w hSw); (try dsimp only at hSw); go_simp; (try with_reducible rfl))
            try simp only [Act.put, List.setIfInBounds_toArray, List.set_cons_zero, List.set_cons_succ]
            refine take_dst (i := 1) 31 (v := ?_) rfl rfl (by kernel_rfl) (by kernel_rfl) (by kernel_rfl) (fun _ _ _ h => h) (Or.inl ⟨by rfl, ?_⟩) (by assumption) ?_
            case refine_2 => ((intro w hSw); (try dsimp only at hSw); go_simp; (try with_reducible rfl))
            try simp only [Act.put, List.setIfInBounds_toArray, List.set_cons_zero, List.set_cons_succ]
            refine take_dst (i := 2) 32 (v := ?_) rfl rfl (by kernel_rfl) (by kernel_rfl) (by kernel_rfl) (fun _ _ _ h => h) (Or.inl ⟨by rfl, ?_⟩) (by assumption) ?_
            case refine_2 => ((intro w hSw); (try dsimp only at hSw); go_simp; (try with_reducible rfl))
            try simp only [Act.put, List.setIfInBounds_toArray, List.set_cons_zero, List.set_cons_succ]
            refine take_dst (i := 3) 33 (v := ?_) rfl rfl (by kernel_rfl) (by kernel_rfl) (by kernel_rfl) (fun _ _ _ h => h) (Or.inl ⟨by rfl, ?_⟩) (by assumption) ?_
            case refine_2 => ((intro w hSw); (try dsimp only at hSw); go_simp; (try with_reducible rfl))
            try simp only [Act.put, List.setIfInBounds_toArray, List.set_cons_zero, List.set_cons_succ]
            refine take_dst (i := 4) 34 (v := ?_) rfl rfl (by kernel_rfl) (by kernel_rfl) (by kernel_rfl) (fun _ _ _ h => h) (Or.inl ⟨by rfl, ?_⟩) (by assumption) ?_
            case refine_2 => ((intro w hSw); (try dsimp only at hSw); go_simp; (try with_reducible rfl))
            try simp only [Act.put, List.setIfInBounds_toArray, List.set_cons_zero, List.set_cons_succ]
            refine take_dst (i := 5) 35 (v := ?_) rfl rfl (by kernel_rfl) (by kernel_rfl) (by kernel_rfl) (fun _ _ _ h => h) (Or.inl ⟨by rfl, ?_⟩) (by assumption) ?_
            case refine_2 => ((intro w hSw); (try dsimp only at hSw); go_simp; (try with_reducible rfl))
            try simp only [Act.put, List.setIfInBounds_toArray, List.set_cons_zero, List.set_cons_succ]
            refine take_dst (i := 6) 36 (v := ?_) rfl rfl (by kernel_rfl) (by kernel_rfl) (by kernel_rfl) (fun _ _ _ h => h) (Or.inl ⟨by rfl, ?_⟩) (by assumption) ?_
            case refine_2 => ((intro w hSw); (try dsimp only at hSw); go_simp; (try with_reducible rfl))
            try simp only [Act.put, List.setIfInBounds_toArray, List.set_cons_zero, List.set_cons_succ]
            refine take_dst (i := 7) 37 (v := ?_) rfl rfl (by kernel_rfl) (by kernel_rfl) (by kernel_rfl) (fun _ _ _ h => h) (Or.inl ⟨by rfl, ?_⟩) (by assumption) ?_
            case refine_2 => ((intro w hSw); (try dsimp only at hSw); go_simp; (try with_reducible rfl))
            try simp only [Act.put, List.setIfInBounds_toArray, List.set_cons_zero, List.set_cons_succ]
            refine take_dst (i := 8) 38 (v := ?_) rfl rfl (by kernel_rfl) (by kernel_rfl) (by kernel_rfl) (fun _ _ _ h => h) (Or.inl ⟨by rfl, ?_⟩) (by assumption) ?_
            case refine_2 => ((intro w hSw); (try dsimp only at hSw); go_simp; (try with_reducible rfl))
            try simp only [Act.put, List.setIfInBounds_toArray, List.set_cons_zero, List.set_cons_succ]
            refine take_dst (i := 9) 39 (v := undef) rfl rfl (by kernel_rfl) (by kernel_rfl) (by kernel_rfl) (fun _ _ _ h => h) (Or.inr ⟨by rfl, rfl⟩) (by assumption) ?_
            try simp only [Act.put, List.setIfInBounds_toArray, List.set_cons_zero, List.set_cons_succ]
            refine take_dst (i := 10) 40 (v := undef) rfl rfl (by kernel_rfl) (by kernel_rfl) (by kernel_rfl) (fun _ _ _ h => h) (Or.inr ⟨by rfl, rfl⟩) (by assumption) ?_
            try simp only [Act.put, List.setIfInBounds_toArray, List.set_cons_zero, List.set_cons_succ]
            refine take_dst (i := 11) 41 (v := undef) rfl rfl (by kernel_rfl) (by kernel_rfl) (by kernel_rfl) (fun _ _ _ h => h) (Or.inr ⟨by rfl, rfl⟩) (by assumption) ?_
            try simp only [Act.put, List.setIfInBounds_toArray, List.set_cons_zero, List.set_cons_succ]
            refine take_dst (i := 12) 42 (v := undef) rfl rfl (by kernel_rfl) (by kernel_rfl) (by kernel_rfl) (fun _ _ _ h => h) (Or.inr ⟨by rfl, rfl⟩) (by assumption) ?_
            try simp only [Act.put, List.setIfInBounds_toArray, List.set_cons_zero, List.set_cons_succ]
            refine take_dst (i := 13) 43 (v := undef) rfl rfl (by kernel_rfl) (by kernel_rfl) (by kernel_rfl) (fun _ _ _ h => h) (Or.inr ⟨by rfl, rfl⟩) (by assumption) ?_
            try simp only [Act.put, List.setIfInBounds_toArray, List.set_cons_zero, List.set_cons_succ]
            refine take_dst (i := 14) 44 (v := undef) rfl rfl (by kernel_rfl) (by kernel_rfl) (by kernel_rfl) (fun _ _ _ h => h) (Or.inr ⟨by rfl, rfl⟩) (by assumption) ?_
            try simp only [Act.put, List.setIfInBounds_toArray, List.set_cons_zero, List.set_cons_succ]
            refine take_dst (i := 15) 45 (v := undef) rfl rfl (by kernel_rfl) (by kernel_rfl) (by kernel_rfl) (fun _ _ _ h => h) (Or.inr ⟨by rfl, rfl⟩) (by assumption) ?_
            try simp only [Act.put, List.setIfInBounds_toArray, List.set_cons_zero, List.set_cons_succ]
            refine take_dst (i := 16) 46 (v := undef) rfl rfl (by kernel_rfl) (by kernel_rfl) (by kernel_rfl) (fun _ _ _ h => h) (Or.inr ⟨by rfl, rfl⟩) (by assumption) ?_
            try simp only [Act.put, List.setIfInBounds_toArray, List.set_cons_zero, List.set_cons_succ]
            refine take_dst (i := 17) 47 (v := undef) rfl rfl (by kernel_rfl) (by kernel_rfl) (by kernel_rfl) (fun _ _ _ h => h) (Or.inr ⟨by rfl, rfl⟩) (by assumption) ?_
            try simp only [Act.put, List.setIfInBounds_toArray, List.set_cons_zero, List.set_cons_succ]
            refine take_dst (i := 18) 48 (v := ?_) rfl rfl (by kernel_rfl) (by kernel_rfl) (by kernel_rfl) (fun _ _ _ h => h) (Or.inl ⟨by rfl, ?_⟩) (by assumption) ?_
            case refine_2 => ((intro w hSw); (try dsimp only at hSw); go_simp; (try with_reducible rfl))
            try simp only [Act.put, List.setIfInBounds_toArray, List.set_cons_zero, List.set_cons_succ]
            refine wpAnyH_done (by kernel_rfl) ?_ _
            have HB5 := hid (HB.out.trans (hHeld.mono HB.out.size))
            have HX5 := hid ((hHeld.block w.heap.size hzr).trans HX.out)
            have HY5 := hid ((hHeld.block (w.heap.size + 1) hzm).trans HY.out)
            clear hHeld j1 i0 l0 l1
            clear k0 k1 k2 n0 n1 m0 m1 m2
            go_wp2
            go_roundw
            case rel => exact ⟨i + 1, by omega, by go_num, HB5.out, HX5.out, HY5.out, hid (HST.out hky)⟩
            case measure => simp [RowKit.intOf]; omega
        · have hie : i = es.length := by omega
          subst hie
          have HM := hid (find_end HP.out)
          rw [HM.out] at HO
          dsimp only at HO
          go_wp2
          go_ret
          exact ⟨by rw [HO.out] <;> rfl, HB.out⟩
end Go.Proofs.YtponjghppnpnhaaDoor

namespace Go.Proofs.YtponjghppnpnhaaDoor
open Go.RowKit
open Go.Lib (hid)

theorem ris_step {ps : List (List UInt8)} (h : risB ps ps.length = true) {i : Nat} (hi : i + 1 < ps.length) : ps[i] < ps[i + 1] := by
  have ha := List.all_eq_true.1 h (i + 1) (List.mem_range.2 hi)
  unfold risGood at ha
  rw [Bool.and_eq_true] at ha
  have hb := of_decide_eq_true ha.2 (Nat.succ_pos i)
  rw [txt_at hi] at hb
  rw [show i + 1 - 1 = i from rfl, txt_at (by omega)] at hb
  exact hb

theorem ris_lt {ps : List (List UInt8)} (h : risB ps ps.length = true) {i : Nat} : ∀ d, (hj : i + d + 1 < ps.length) → ps[i] < ps[i + d + 1]
  | 0, hj => ris_step h hj
  | d + 1, hj => List.lt_trans (ris_lt h d (by omega)) (ris_step h (i := i + d + 1) hj)

theorem ris_pair {ps : List (List UInt8)} (h : risB ps ps.length = true) : ps.Pairwise (fun a b => a < b) := by
  rw [List.pairwise_iff_getElem]
  intro i j hi hj hij
  obtain ⟨d, rfl⟩ : ∃ d, j = i + d + 1 := ⟨j - i - 1, by omega⟩
  exact ris_lt h d hj

/-- Where a rising list is cut by a text. -/
theorem cut_at (t : List UInt8) : ∀ ps : List (List UInt8), ps.Pairwise (fun a b => a < b) → ∃ k, k ≤ ps.length ∧ (∀ j, j < k → ps.getD j t < t) ∧ ∀ j, k ≤ j → ¬ ps.getD j t < t
  | [], _ => ⟨0, Nat.le_refl _, fun j hj => absurd hj (Nat.not_lt_zero j), fun j _ => by simp [List.getD]⟩
  | a :: r, h => by
    obtain ⟨ha, hr⟩ := List.pairwise_cons.1 h
    by_cases hat : a < t
    · obtain ⟨k, hk, h1, h2⟩ := cut_at t r hr
      refine ⟨k + 1, by simpa using hk, fun j hj => ?_, fun j hj => ?_⟩
      · cases j with
        | zero => simpa [List.getD] using hat
        | succ j => have := h1 j (by omega); simpa [List.getD] using this
      · cases j with
        | zero => omega
        | succ j => have := h2 j (by omega); simpa [List.getD] using this
    · refine ⟨0, Nat.zero_le _, fun j hj => absurd hj (Nat.not_lt_zero j), fun j _ => ?_⟩
      cases j with
      | zero => simpa [List.getD] using hat
      | succ j =>
        by_cases hj : j < r.length
        · have e : (a :: r).getD (j + 1) t = r[j] := by simp [List.getD, hj]
          rw [e]
          exact fun hx => hat (List.lt_trans (ha _ (List.getElem_mem hj)) hx)
        · have e : (a :: r).getD (j + 1) t = t := by simp [List.getD, hj]
          rw [e]
          exact List.lt_irrefl t

theorem bytes_inj {x t : List UInt8} (h : bytesOf x = bytesOf t) : x = t := by
  have := congrArg ByteArray.toList h
  rw [Lib.toList_data, Lib.toList_data, bytesOf_list, bytesOf_list] at this
  exact this

theorem search_says {ps : List (List UInt8)} (h : risB ps ps.length = true) (t : List UInt8) :
    decide (Lib.bsGo (fun j => Op.bytesLess (bytesOf (ps.getD j t)).toList (bytesOf t).toList) ps.length 0 ps.length < ps.length ∧ bytesOf (ps.getD (Lib.bsGo (fun j => Op.bytesLess (bytesOf (ps.getD j t)).toList (bytesOf t).toList) ps.length 0 ps.length) t) = bytesOf t) = decide (t ∈ ps) := by
  have hp := ris_pair h
  obtain ⟨k, hk, h1, h2⟩ := cut_at t ps hp
  have hl : ∀ j, Op.bytesLess (bytesOf (ps.getD j t)).toList (bytesOf t).toList = decide (ps.getD j t < t) := fun j => by
    rw [Lib.toList_data, Lib.toList_data, bytesOf_list, bytesOf_list, bytesLess_eq]
  have e := Lib.bsGo_spec (fun j => Op.bytesLess (bytesOf (ps.getD j t)).toList (bytesOf t).toList) k (fun j hj => by rw [hl, decide_eq_true (h1 j hj)]) (fun j hj => by rw [hl, decide_eq_false (h2 j hj)]) ps.length 0 ps.length (by omega) (Nat.zero_le _) hk
  rw [e]
  rw [decide_eq_decide]
  constructor
  · rintro ⟨hlt, hb⟩
    have hb2 := bytes_inj hb
    have e2 : ps.getD k t = ps[k] := by simp [List.getD, hlt]
    rw [e2] at hb2
    rw [← hb2]
    exact List.getElem_mem hlt
  · intro hin
    obtain ⟨i, hi, rfl⟩ := List.mem_iff_getElem.1 hin
    have ei : ∀ j, (hj : j < ps.length) → ps.getD j ps[i] = ps[j] := fun j hj => by simp [List.getD, hj]
    have hki : k ≤ i := by
      rcases Nat.lt_or_ge i k with hlt | hge
      · have := h1 i hlt
        rw [ei i hi] at this
        exact absurd this (List.lt_irrefl _)
      · exact hge
    rcases Nat.lt_or_ge k i with hlt | hge
    · have := h2 k (Nat.le_refl _)
      rw [ei k (by omega)] at this
      exact absurd (List.pairwise_iff_getElem.1 hp k i (by omega) hi hlt) this
    · have : k = i := by omega
      subst this
      exact ⟨hi, by rw [ei k hi]⟩

theorem search_calls {ps : List (List UInt8)} (h : risB ps ps.length = true) (hm : ps.length ≤ 1048576) (t : List UInt8) (b : Value) (w : World) (hb : TextsAt w b ps) :
    Calls Tryd.prog 134 #[b, .string (bytesOf t)] w fun e w' => ∃ z : Int, e = .returned (.tuple #[.int .i64 z, .bool (decide (t ∈ ps))]) ∧ Below w.heap.size w w' := by
  obtain ⟨p, c, rfl, hp⟩ := hb
  by_cases hne : ps = []
  · subst hne
    exact (Tryd.slices_BinarySearch_string_empty p c (bytesOf t) w).mono (fun e w' hh => by
      obtain ⟨rfl, rfl⟩ := hh
      exact ⟨0, rfl, Below.refl _ _⟩)
  · obtain ⟨g, rfl, hg, hc⟩ := hp hne
    exact (Tryd.slices_BinarySearch_string g 0 ps.length c (fun j => bytesOf (ps.getD j t)) (bytesOf t) w (by omega) (fun j hj => by
      show w.cell? ⟨g, 0 + j, none⟩ = some (.string (bytesOf (ps.getD j t)))
      rw [Nat.zero_add, show ps.getD j t = ps[j] by simp [List.getD, hj]]
      exact hc j hj)).mono (fun e w' hh => by
      obtain ⟨rfl, q, rfl⟩ := hh
      rw [search_says h t]
      exact ⟨_, rfl, drewN_below (Below.refl _ _) q⟩)
end Go.Proofs.YtponjghppnpnhaaDoor

namespace Go.Proofs.YtponjghppnpnhaaDoor
open Go.RowKit Go.WideMaps Go.Maps
open Go.Lib (hid)

theorem rowData_inj {H : Type} {a p : Int} {s t : List UInt8} {b q c d : Int} (h : rowData (H := H) a s b c = rowData p t q d) : p = a ∧ q = b := by
  unfold rowData at h
  injection h with h
  injection h with h1 h
  injection h with h2 h
  injection h with h3 h
  injection h1 with h1
  injection h3 with h3
  injection h1 with _ h1
  injection h3 with _ h3
  exact ⟨h1.symm, h3.symm⟩

set_option maxRecDepth 20000 in
set_option maxHeartbeats 4000000 in
theorem judge_calls (num : Int) (es : List RefD) (ps : List (List UInt8)) (hf : RowsFit es) (hm : ps.length ≤ 1048576) (hpb : polB num es ps = true) (layer : Int) (hl : -9223372036854775808 ≤ layer ∧ layer ≤ 9223372036854775807) (name : ByteArray) (hs : name.size ≤ maxLen) (ver : Int) (s : Nat) (p4 : Option Addr) (c4 : Nat) (w : World)
    (ho : w.ownsMap Tryd.prog 178 (rowElem (H := Unit)) s es.length (rowsD es es.length)) (ht : TextsAt w (.slice p4 ps.length c4) ps) (hT : Tab w) (hG : 0 < w.heap.size) (hP : Lib.TabIs Tryd.prog w "internal/strconv.uint64pow10" .u64 Lib.pow10Tab) :
    Calls Tryd.prog 74 #[.agg #[.int .i64 num, .map (some s), .slice p4 ps.length c4], .int .i64 layer, .agg #[.string name, .int .i64 ver]] w fun e w' => e = .returned (.int .i64 (judO num es ps layer name ver)) ∧ Below w.heap.size w w' := by
  have HK := hid (rk_key w hl hs)
  have hg2 : rowsB es es.length = true ∧ risB ps ps.length = true := by
    unfold polB at hpb
    simp only [Bool.and_eq_true] at hpb
    exact ⟨hpb.2.2.2.1, hpb.2.2.2.2⟩
  have HNO := hid (fun hn => rows_none (H := Unit) w hf hl hs es.length (Nat.le_refl _) (row_none (es := es) (layer := layer) (name := name) hn))
  have HYE := hid (fun (x : RefD) (hx : rowO es layer name = some x) => by
    obtain ⟨k, hk, he, hy⟩ := row_some hx
    have := rows_some (H := Unit) w hf hg2.1 hl hs es.length (Nat.le_refl _) k hk hy
    rw [he] at this
    exact (⟨this.1, k, fun z => this.2 z⟩ : Maps.has (rowsD (H := Unit) es es.length) (rk layer name) = true ∧ ∃ k : Nat, ∀ z, (rowsD (H := Unit) es es.length).atKey (rk layer name) z = rowData x.x0 x.x1.data.toList x.x2 k))
  have CM := hid (fun W (hB : Below w.heap.size w W) => meas_impl layer name ver W (tab_on hT hG hB) (Nat.lt_of_lt_of_le hG hB.size) (Num.tab_stays hB hP))
  have CS := hid (fun W (hB : Below w.heap.size w W) => search_calls hg2.2 hm (measOut layer name.data.toList ver).2 (.slice p4 ps.length c4) W (ht.on hB))
  unfold MadeOut at CM
  have HO : Hid (judO num es ps layer name ver = if polB num es ps = true ∧ (measOut layer name.data.toList ver).1 = true then (match rowO es layer name with | none => 2 | some e => sayO ps (measOut layer name.data.toList ver).2 ver e) else 1) := hid rfl
  rw [hpb] at HO
  have HOW := hid ho
  have HSL := hid ho.lt
  generalize judO num es ps layer name ver = ro at *
  generalize (measOut layer name.data.toList ver).1 = ok at *
  obtain ⟨t, ht2⟩ : ∃ t, (measOut layer name.data.toList ver).2 = t := ⟨_, rfl⟩
  rw [ht2] at CM CS HO
  generalize rk layer name = kl at *
  generalize rowsD (H := Unit) es es.length = D at *
  generalize es.length = n at *
  generalize hdin : decide (t ∈ ps) = inb at *
  have HIN := hid hdin
  clear hdin ht2 ho ht hT hG hP hf hm hl hs hg2 hpb
  have HB0_0 : Hid (Below w.heap.size w w) := hid (Below.refl _ _)
  have hz0 : w.heap.size ≤ w.heap.size := Nat.le_refl _
  obtain ⟨w1, hw1⟩ : ∃ W, W = w.alloc (.cells #[.int .i64 num, .map (some s), .slice p4 ps.length c4] 119) := ⟨_, rfl⟩
  have hb1 : Below w.heap.size w w1 := by rw [hw1]; exact (Below.refl _ _).alloc (Nat.le_refl _) _
  have hz1 : w.heap.size < w1.heap.size := by rw [hw1]; simp
  have HVB_1 : Hid (w1.heap[w.heap.size]? = some (.cells #[.int .i64 num, .map (some s), .slice p4 ps.length c4] 119)) := hid (by rw [hw1]; exact heap_alloc_new _ _)
  have HW1 := hid hw1
  have HB0_1 := hid (HB0_0.out.trans (hb1.mono HB0_0.out.size))
  clear hw1 hb1
  obtain ⟨w2, hw2⟩ : ∃ W, W = w1.alloc (.cells #[.string name, .int .i64 ver] 56) := ⟨_, rfl⟩
  have hb2 : Below w1.heap.size w1 w2 := by rw [hw2]; exact (Below.refl _ _).alloc (Nat.le_refl _) _
  have hz2 : w1.heap.size < w2.heap.size := by rw [hw2]; simp
  have HVM_2 : Hid (w2.heap[w1.heap.size]? = some (.cells #[.string name, .int .i64 ver] 56)) := hid (by rw [hw2]; exact heap_alloc_new _ _)
  have HW2 := hid hw2
  have HB0_2 := hid (HB0_1.out.trans (hb2.mono HB0_1.out.size))
  have HVB_2 := hid ((hb2.block _ (by omega)).trans HVB_1.out)
  clear HB0_1
  clear hw2 hb2
  have hzL : w1.heap.size = w.heap.size + 1 := by rw [HW1.out]; simp
  have hzL2 : w.heap.size + 1 < w2.heap.size := by omega
  rw [hzL] at HVM_2
  clear hzL
  cases ok with
  | false =>
    have HZ : Hid (ro = 1) := hid (by rw [HO.out, if_neg (fun h => by cases h.2)])
    clear HO
    rw [if_neg (by decide)] at CM
    go_enter Tryd.func74, Tryd.ntmps74
    go_wp2_with (go_at_call 133; rw [← HW1.out]; rw [← HW2.out]; refine (CM.out _ HB0_2.out).mono ?_; rintro e w3 ⟨rfl, hb3⟩; refine Hid.out ?_)
    refine hid ?_
    clear HVB_1
    have hz3 := hb3.size
    have HB0_3 := hid (HB0_2.out.trans (hb3.mono HB0_2.out.size))
    have HVB_3 := hid ((hb3.block _ (by omega)).trans HVB_2.out)
    have HVM_3 := hid ((hb3.block _ (by omega)).trans HVM_2.out)
    clear HB0_2 HVB_2 HVM_2
    clear hb3
    go_wp2
    go_ret
    exact ⟨by rw [HZ.out] <;> rfl, HB0_3.out⟩
  | true =>
    rw [if_pos ⟨rfl, rfl⟩] at HO
    rw [if_pos rfl] at CM
    obtain ⟨y, hy⟩ : ∃ y, bytesOf t = y := ⟨_, rfl⟩
    rw [hy] at CM CS
    clear hy
    cases hro : rowO es layer name with
    | none =>
      have HH := hid (HNO.out hro)
      rw [hro] at HO
      dsimp only at HO
      clear HNO HYE hro
      go_enter Tryd.func74, Tryd.ntmps74
      go_wp2_with (go_at_call 133; rw [← HW1.out]; rw [← HW2.out]; refine (CM.out _ HB0_2.out).mono ?_; rintro e w3 ⟨rfl, hb3⟩; refine Hid.out ?_)
      refine hid ?_
      clear HVB_1
      have hz3 := hb3.size
      have HB0_3 := hid (HB0_2.out.trans (hb3.mono HB0_2.out.size))
      have HVB_3 := hid ((hb3.block _ (by omega)).trans HVB_2.out)
      have HVM_3 := hid ((hb3.block _ (by omega)).trans HVM_2.out)
      clear HB0_2 HVB_2 HVM_2
      clear hb3
      have HO3 := hid (HOW.out.kept (grown_below (row := none) HB0_3.out) (by simp))
      have k_B_0 := (cell_of_row _ _ 0 _ _ _ HVB_3.out).trans rfl
      have k_B_1 := (cell_of_row _ _ 1 _ _ _ HVB_3.out).trans rfl
      have k_B_2 := (cell_of_row _ _ 2 _ _ _ HVB_3.out).trans rfl
      have k_M_0 := (cell_of_row _ _ 0 _ _ _ HVM_3.out).trans rfl
      have k_M_1 := (cell_of_row _ _ 1 _ _ _ HVM_3.out).trans rfl
      go_wp2_with (at_lookup; refine look_row _ rfl _ _ rfl s n D rfl HO3.out _ kl rfl HK.out ?_; intro p q0 q c hd; rw [HH.out]; refine Hid.out ?_)
      refine hid ?_
      clear hd
      clear k_B_0 k_B_1 k_B_2 k_M_0 k_M_1
      obtain ⟨w4, hw4⟩ : ∃ W, W = w3.alloc (.cells #[.int .i64 p, .string q0, .int .i64 q, .int .i64 c] 175) := ⟨_, rfl⟩
      have hb4 : Below w3.heap.size w3 w4 := by rw [hw4]; exact (Below.refl _ _).alloc (Nat.le_refl _) _
      have hz4 : w3.heap.size < w4.heap.size := by rw [hw4]; simp
      have HVR_4 : Hid (w4.heap[w3.heap.size]? = some (.cells #[.int .i64 p, .string q0, .int .i64 q, .int .i64 c] 175)) := hid (by rw [hw4]; exact heap_alloc_new _ _)
      have HW4 := hid hw4
      have HB0_4 := hid (HB0_3.out.trans (hb4.mono HB0_3.out.size))
      have HVB_4 := hid ((hb4.block _ (by omega)).trans HVB_3.out)
      have HVM_4 := hid ((hb4.block _ (by omega)).trans HVM_3.out)
      clear HB0_3
      clear hw4 hb4
      have kz_B : w.heap.size < w3.heap.size := by omega
      have k_B_0 := (cell_of_row _ _ 0 _ _ _ HVB_3.out).trans rfl
      have k_B_1 := (cell_of_row _ _ 1 _ _ _ HVB_3.out).trans rfl
      have k_B_2 := (cell_of_row _ _ 2 _ _ _ HVB_3.out).trans rfl
      go_wp2_with (go_at_call 134; rw [← HW4.out]; refine (CS.out _ HB0_4.out).mono ?_; rintro e w5 ⟨z, rfl, hb5⟩; refine Hid.out ?_)
      refine hid ?_
      clear kz_B k_B_0 k_B_1 k_B_2
      clear HVB_3 HVM_3
      have hz5 := hb5.size
      have HB0_5 := hid (HB0_4.out.trans (hb5.mono HB0_4.out.size))
      have HVB_5 := hid ((hb5.block _ (by omega)).trans HVB_4.out)
      have HVM_5 := hid ((hb5.block _ (by omega)).trans HVM_4.out)
      have HVR_5 := hid ((hb5.block _ (by omega)).trans HVR_4.out)
      clear HB0_4 HVB_4 HVM_4 HVR_4
      clear hb5
      go_wp2
      go_ret
      exact ⟨by rw [HO.out] <;> rfl, HB0_5.out⟩
    | some x =>
      have HH := hid (HYE.out x hro).1
      have HAT := hid (HYE.out x hro).2
      rw [hro] at HO
      dsimp only at HO
      have HSY : Hid (sayO ps t ver x = if t ∈ ps then 3 else if ver < x.x2 then 4 else 0) := hid rfl
      clear HNO HYE hro
      go_enter Tryd.func74, Tryd.ntmps74
      go_wp2_with (go_at_call 133; rw [← HW1.out]; rw [← HW2.out]; refine (CM.out _ HB0_2.out).mono ?_; rintro e w3 ⟨rfl, hb3⟩; refine Hid.out ?_)
      refine hid ?_
      clear HVB_1
      have hz3 := hb3.size
      have HB0_3 := hid (HB0_2.out.trans (hb3.mono HB0_2.out.size))
      have HVB_3 := hid ((hb3.block _ (by omega)).trans HVB_2.out)
      have HVM_3 := hid ((hb3.block _ (by omega)).trans HVM_2.out)
      clear HB0_2 HVB_2 HVM_2
      clear hb3
      have HO3 := hid (HOW.out.kept (grown_below (row := none) HB0_3.out) (by simp))
      have k_B_0 := (cell_of_row _ _ 0 _ _ _ HVB_3.out).trans rfl
      have k_B_1 := (cell_of_row _ _ 1 _ _ _ HVB_3.out).trans rfl
      have k_B_2 := (cell_of_row _ _ 2 _ _ _ HVB_3.out).trans rfl
      have k_M_0 := (cell_of_row _ _ 0 _ _ _ HVM_3.out).trans rfl
      have k_M_1 := (cell_of_row _ _ 1 _ _ _ HVM_3.out).trans rfl
      go_wp2_with (at_lookup; refine look_row _ rfl _ _ rfl s n D rfl HO3.out _ kl rfl HK.out ?_; intro p q0 q c hd; rw [HH.out]; refine Hid.out ?_)
      refine hid ?_
      obtain ⟨k, hat⟩ := HAT.out
      have hq := (rowData_inj ((hat _).symm.trans hd)).2
      clear hat hd HAT
      rw [← hq] at HSY
      clear hq
      clear k_B_0 k_B_1 k_B_2 k_M_0 k_M_1
      obtain ⟨w4, hw4⟩ : ∃ W, W = w3.alloc (.cells #[.int .i64 p, .string q0, .int .i64 q, .int .i64 c] 175) := ⟨_, rfl⟩
      have hb4 : Below w3.heap.size w3 w4 := by rw [hw4]; exact (Below.refl _ _).alloc (Nat.le_refl _) _
      have hz4 : w3.heap.size < w4.heap.size := by rw [hw4]; simp
      have HVR_4 : Hid (w4.heap[w3.heap.size]? = some (.cells #[.int .i64 p, .string q0, .int .i64 q, .int .i64 c] 175)) := hid (by rw [hw4]; exact heap_alloc_new _ _)
      have HW4 := hid hw4
      have HB0_4 := hid (HB0_3.out.trans (hb4.mono HB0_3.out.size))
      have HVB_4 := hid ((hb4.block _ (by omega)).trans HVB_3.out)
      have HVM_4 := hid ((hb4.block _ (by omega)).trans HVM_3.out)
      clear HB0_3
      clear hw4 hb4
      have kz_B : w.heap.size < w3.heap.size := by omega
      have k_B_0 := (cell_of_row _ _ 0 _ _ _ HVB_3.out).trans rfl
      have k_B_1 := (cell_of_row _ _ 1 _ _ _ HVB_3.out).trans rfl
      have k_B_2 := (cell_of_row _ _ 2 _ _ _ HVB_3.out).trans rfl
      go_wp2_with (go_at_call 134; rw [← HW4.out]; refine (CS.out _ HB0_4.out).mono ?_; rintro e w5 ⟨z, rfl, hb5⟩; refine Hid.out ?_)
      refine hid ?_
      clear kz_B k_B_0 k_B_1 k_B_2
      clear HVB_3 HVM_3
      have hz5 := hb5.size
      have HB0_5 := hid (HB0_4.out.trans (hb5.mono HB0_4.out.size))
      have HVB_5 := hid ((hb5.block _ (by omega)).trans HVB_4.out)
      have HVM_5 := hid ((hb5.block _ (by omega)).trans HVM_4.out)
      have HVR_5 := hid ((hb5.block _ (by omega)).trans HVR_4.out)
      clear HB0_4 HVB_4 HVM_4 HVR_4
      clear hb5
      cases inb with
      | true =>
        have HZ : Hid (ro = 3) := hid (by rw [HO.out, HSY.out, if_pos (of_decide_eq_true HIN.out)])
        go_wp2
        go_ret
        exact ⟨by rw [HZ.out] <;> rfl, HB0_5.out⟩
      | false =>
        rw [HSY.out, if_neg (of_decide_eq_false HIN.out)] at HO
        have m1 := (cell_of_row _ _ 1 _ _ _ HVM_5.out).trans rfl
        have r2 := (cell_of_row _ _ 2 _ _ _ HVR_5.out).trans rfl
        by_cases hv : ver < q
        · have HZ : Hid (ro = 4) := hid (by rw [HO.out, if_pos hv])
          go_wp2
          go_ret
          exact ⟨by rw [HZ.out] <;> rfl, HB0_5.out⟩
        · have HZ : Hid (ro = 0) := hid (by rw [HO.out, if_neg hv])
          have hv2 : decide (ver < q) = false := decide_eq_false hv
          go_wp2
          go_ret
          exact ⟨by rw [HZ.out] <;> rfl, HB0_5.out⟩
end Go.Proofs.YtponjghppnpnhaaDoor

namespace Go.Proofs.YtponjghppnpnhaaDoor
open Go.RowKit Go.WideMaps Go.Maps
open Go.Lib (hid)

set_option maxRecDepth 20000 in
set_option maxHeartbeats 4000000 in
theorem jud_impl (num : Int) (es : List RefD) (hn : es.length ≤ 1048576) (hf : RowsFit es) (ps : List (List UInt8)) (hm : ps.length ≤ 1048576) (layer : Int) (hl : -9223372036854775808 ≤ layer ∧ layer ≤ 9223372036854775807) (name : ByteArray) (hs : name.size ≤ maxLen) (ver : Int) (a b : Value) (w : World) (ha : FRow encRef 3 w a es) (hb : TextsAt w b ps) (hT : Tab w) (hG : 0 < w.heap.size) (hP : Lib.TabIs Tryd.prog w "internal/strconv.uint64pow10" .u64 Lib.pow10Tab) :
    Calls Tryd.prog 31 #[.agg #[.int .i64 num, a, b], .int .i64 layer, .agg #[.string name, .int .i64 ver]] w fun e w' => e = .returned (.int .i64 (judO num es ps layer name ver)) ∧ Below w.heap.size w w' := by
  have CN := hid (fun hr W (hB : Below w.heap.size w W) => openPol_no (num := num) (es := es) (ps := ps) hr hn hf hm a b W (ha.on hB) (hb.on hB) (tab_on hT hG hB) (Nat.lt_of_lt_of_le hG hB.size) (Num.tab_stays hB hP))
  have CY := hid (fun hr W (hB : Below w.heap.size w W) => openPol_yes (H := Unit) (num := num) (es := es) (ps := ps) hr hn hf hm a b W (ha.on hB) (hb.on hB) (tab_on hT hG hB) (Nat.lt_of_lt_of_le hG hB.size) (Num.tab_stays hB hP))
  have CJ := hid (fun hp s p4 c4 W (hB : Below w.heap.size w W) ho ht => judge_calls num es ps hf hm hp layer hl name hs ver s p4 c4 W ho ht (tab_on hT hG hB) (Nat.lt_of_lt_of_le hG hB.size) (Num.tab_stays hB hP))
  have HO : Hid (judO num es ps layer name ver = if polB num es ps = true ∧ (measOut layer name.data.toList ver).1 = true then (match rowO es layer name with | none => 2 | some e => sayO ps (measOut layer name.data.toList ver).2 ver e) else 1) := hid rfl
  obtain ⟨p, c, rfl, _, hrest⟩ := ha
  obtain ⟨q, d, rfl, hrest2⟩ := hb
  clear hrest hrest2 hT hP hG hf hm hn hl hs
  generalize judO num es ps layer name ver = ro at *
  have HB0_0 : Hid (Below w.heap.size w w) := hid (Below.refl _ _)
  have hz0 : w.heap.size ≤ w.heap.size := Nat.le_refl _
  obtain ⟨w1, hw1⟩ : ∃ W, W = w.alloc (.cells #[.int .i64 num, .slice p es.length c, .slice q ps.length d] 54) := ⟨_, rfl⟩
  have hb1 : Below w.heap.size w w1 := by rw [hw1]; exact (Below.refl _ _).alloc (Nat.le_refl _) _
  have hz1 : w.heap.size < w1.heap.size := by rw [hw1]; simp
  have HVP_1 : Hid (w1.heap[w.heap.size]? = some (.cells #[.int .i64 num, .slice p es.length c, .slice q ps.length d] 54)) := hid (by rw [hw1]; exact heap_alloc_new _ _)
  have HW1 := hid hw1
  have HB0_1 := hid (HB0_0.out.trans (hb1.mono HB0_0.out.size))
  clear hw1 hb1
  obtain ⟨w2, hw2⟩ : ∃ W, W = w1.alloc (.cells #[.string name, .int .i64 ver] 56) := ⟨_, rfl⟩
  have hb2 : Below w1.heap.size w1 w2 := by rw [hw2]; exact (Below.refl _ _).alloc (Nat.le_refl _) _
  have hz2 : w1.heap.size < w2.heap.size := by rw [hw2]; simp
  have HVM_2 : Hid (w2.heap[w1.heap.size]? = some (.cells #[.string name, .int .i64 ver] 56)) := hid (by rw [hw2]; exact heap_alloc_new _ _)
  have HW2 := hid hw2
  have HB0_2 := hid (HB0_1.out.trans (hb2.mono HB0_1.out.size))
  have HVP_2 := hid ((hb2.block _ (by omega)).trans HVP_1.out)
  clear HB0_1
  clear hw2 hb2
  have hzL : w1.heap.size = w.heap.size + 1 := by rw [HW1.out]; simp
  have hzL2 : w.heap.size + 1 < w2.heap.size := by omega
  rw [hzL] at HVM_2
  clear hzL
  cases hr : polB num es ps with
  | false =>
    have HZ : Hid (ro = 1) := hid (by rw [HO.out, hr, if_neg (fun h => by cases h.1)])
    have C := hid (CN.out hr)
    clear HO CN CY CJ hr
    go_enter Tryd.func31, Tryd.ntmps31
    go_wp2_with (go_at_call 73; rw [← HW1.out]; rw [← HW2.out]; refine (C.out _ HB0_2.out).mono ?_; rintro e w3 ⟨rfl, hb3⟩; refine Hid.out ?_)
    refine hid ?_
    clear HVP_1
    have hz3 := hb3.size
    have HB0_3 := hid (HB0_2.out.trans (hb3.mono HB0_2.out.size))
    have HVP_3 := hid ((hb3.block _ (by omega)).trans HVP_2.out)
    have HVM_3 := hid ((hb3.block _ (by omega)).trans HVM_2.out)
    clear HB0_2 HVP_2 HVM_2
    clear hb3
    go_wp2
    go_ret
    exact ⟨by rw [HZ.out] <;> rfl, HB0_3.out.alloc HB0_3.out.size _⟩
  | true =>
    have C := hid (CY.out hr)
    have CX := hid (CJ.out hr)
    clear HO CN CY CJ hr
    go_enter Tryd.func31, Tryd.ntmps31
    go_wp2_with (go_at_call 73; rw [← HW1.out]; rw [← HW2.out]; refine (C.out _ HB0_2.out).mono ?_; rintro e w3 ⟨s, p4, c4, rfl, hb3, _, ho3, hq3⟩; refine Hid.out ?_)
    refine hid ?_
    clear HVP_1
    have hz3 := hb3.size
    have HB0_3 := hid (HB0_2.out.trans (hb3.mono HB0_2.out.size))
    have HVP_3 := hid ((hb3.block _ (by omega)).trans HVP_2.out)
    have HVM_3 := hid ((hb3.block _ (by omega)).trans HVM_2.out)
    clear HB0_2 HVP_2 HVM_2
    have HB3_3 : Hid (Below w3.heap.size w3 w3) := hid (Below.refl _ _)
    have HFq := hid (hq3)
    have HOM := hid ho3
    clear ho3 hq3
    clear hb3
    obtain ⟨w4, hw4⟩ : ∃ W, W = w3.alloc (.cells #[.int .i64 num, .map (some s), .slice p4 ps.length c4] 119) := ⟨_, rfl⟩
    have hb4 : Below w3.heap.size w3 w4 := by rw [hw4]; exact (Below.refl _ _).alloc (Nat.le_refl _) _
    have hz4 : w3.heap.size < w4.heap.size := by rw [hw4]; simp
    have HVK_4 : Hid (w4.heap[w3.heap.size]? = some (.cells #[.int .i64 num, .map (some s), .slice p4 ps.length c4] 119)) := hid (by rw [hw4]; exact heap_alloc_new _ _)
    have HW4 := hid hw4
    have HB0_4 := hid (HB0_3.out.trans (hb4.mono HB0_3.out.size))
    have HB3_4 := hid (HB3_3.out.trans (hb4.mono HB3_3.out.size))
    have HVP_4 := hid ((hb4.block _ (by omega)).trans HVP_3.out)
    have HVM_4 := hid ((hb4.block _ (by omega)).trans HVM_3.out)
    clear HB0_3 HB3_3
    clear hw4 hb4
    have kz_M : w.heap.size + 1 < w3.heap.size := by omega
    have k_M_0 := (cell_of_row _ _ 0 _ _ _ HVM_3.out).trans rfl
    have k_M_1 := (cell_of_row _ _ 1 _ _ _ HVM_3.out).trans rfl
    go_wp2_with (go_at_call 74; rw [← HW4.out]; refine (CX.out s p4 c4 _ HB0_4.out (HOM.out.kept (grown_below (row := none) HB3_4.out) (by simp)) (HFq.out.on HB3_4.out)).mono ?_; rintro e w5 ⟨rfl, hb5⟩; refine Hid.out ?_)
    refine hid ?_
    clear kz_M k_M_0 k_M_1
    clear HVP_3 HVM_3
    have hz5 := hb5.size
    have HB0_5 := hid (HB0_4.out.trans (hb5.mono HB0_4.out.size))
    have HB3_5 := hid (HB3_4.out.trans (hb5.mono HB3_4.out.size))
    have HVP_5 := hid ((hb5.block _ (by omega)).trans HVP_4.out)
    have HVM_5 := hid ((hb5.block _ (by omega)).trans HVM_4.out)
    have HVK_5 := hid ((hb5.block _ (by omega)).trans HVK_4.out)
    clear HB0_4 HB3_4 HVP_4 HVM_4 HVK_4
    clear hb5
    go_wp2
    go_ret
    exact ⟨rfl, HB0_5.out⟩
end Go.Proofs.YtponjghppnpnhaaDoor
