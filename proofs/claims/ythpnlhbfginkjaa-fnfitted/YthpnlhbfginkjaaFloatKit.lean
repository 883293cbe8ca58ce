/- Rows of floats: append, a copy, two held against each other, marks. -/
import Derived.Test.YthpnlhbfginkjaaIntKit
import Derived.Test.YthpnlhbfginkjaaFloatBoth
namespace Go.Proofs.Ythpnlhbfginkjaa
open Go.RowKit
open Go.Lib (hid)

attribute [local go_sem] run_fadd run_fsub run_fmul run_fquo run_store_float

/-- Floats as they lie in a row. -/
def fls (l : List Nat) : List Value := l.map (Value.float .f64)

theorem fls_len (l : List Nat) : (fls l).length = l.length := by simp [fls]

theorem fls_at (l : List Nat) (i : Nat) (h : i < l.length) : (fls l)[i]? = some (.float .f64 l[i]) := by simp [fls, h]

theorem fls_append (a b : List Nat) : fls (a ++ b) = fls a ++ fls b := by simp [fls]

theorem fls_one (l : List Nat) : ∀ v ∈ fls l, v.oneCell' = true := by
  intro v hv
  obtain ⟨x, _, rfl⟩ := List.mem_map.1 hv
  rfl

def fnoughts (n : Nat) : List Nat := List.replicate n 0

theorem fnoughts_len (n : Nat) : (fnoughts n).length = n := by simp [fnoughts]

/-- A slice of floats, wherever it begins in its block. -/
def RowFl (w : World) (a : Value) (l : List Nat) : Prop :=
  ∃ p c, a = .slice p l.length c ∧ l.length ≤ c ∧ (l ≠ [] → ∃ g o, p = some ⟨g, o, none⟩ ∧ g < w.heap.size ∧ ∀ j (h : j < l.length), w.cell? ⟨g, o + j, none⟩ = some (.float .f64 l[j]))

theorem RowFl.on {w w' : World} {a : Value} {l : List Nat} (h : RowFl w a l) (hb : Below w.heap.size w w') : RowFl w' a l := by
  obtain ⟨p, c, rfl, hc, hp⟩ := h
  refine ⟨p, c, rfl, hc, fun hne => ?_⟩
  obtain ⟨g, o, rfl, hg, hcell⟩ := hp hne
  exact ⟨g, o, rfl, Nat.lt_of_lt_of_le hg hb.size, fun j hj => by rw [hb.cell (p := ⟨g, o + j, none⟩) hg]; exact hcell j hj⟩

theorem row_fl_own {w : World} {base : Nat} {a : Value} {l : List Nat} (h : w.ownsRow base 24 1 a l.length (fls l)) : RowFl w a l := by
  rcases h.2 with ⟨hv, hz⟩ | ⟨g, cap, cur, e1, hbg, hg, hnc, _⟩
  · have hl : l = [] := List.eq_nil_of_length_eq_zero hz
    subst hl
    exact ⟨none, 0, hv, Nat.le_refl _, fun h => absurd rfl h⟩
  · refine ⟨_, cap, e1, hnc, fun _ => ⟨g, 0, rfl, (Array.getElem?_eq_some_iff.1 hg).1, fun j hj => ?_⟩⟩
    have := h.cells (g := g) (by rw [e1]; rfl) j (.float .f64 l[j]) (fls_at l j hj)
    rw [Addr.add_mid] at this
    exact this

theorem row_fl_own2 {w : World} {base n : Nat} {a : Value} {l : List Nat} (hn : n = l.length) (h : w.ownsRow base 24 1 a n (fls l)) : RowFl w a l := by
  subst hn
  exact row_fl_own h

theorem flInfo : (Try.prog.info? 24).map (fun i => (i.zero, i.size, i.bytes)) = some (some (.float .f64 0), 1, 8) := by kernel_rfl

/-- A whole slice of floats more on a slice of floats that the call has made. -/
theorem wp_append_fls {w : World} {ops : Array Oper} {rest : List Oper} {o : Oper} {a : Act} {Q : Exit → Act → World → Prop} (hgd : o.guard = none) (s x : Operand)
    (ho : o.op = .call { callee := .builtin .append, args := #[s, x], argTypes := #[32, 32] }) (base : Nat)
    (v : Value) (n : Nat) (xs : List Value) (hs : a.eval s = v) (hown : w.ownsRow base 24 1 v n xs)
    (sx : Value) (ys : List Nat) (hx : a.eval x = sx) (hsx : RowFl w sx ys) (hn : n + ys.length ≤ 1000000000) (hbase : base ≤ w.heap.size) (hnil : ∀ c, sx = .slice none ys.length c → c = 0)
    (h : ∀ v' w', w'.ownsRow base 24 1 v' (n + ys.length) (xs ++ fls ys) → w.grownBy w' v.ownBlock → (v'.ownBlock = v.ownBlock ∨ v'.ownBlock = some w.heap.size) → wpList Try.prog ops Q rest (a.put o.dst v') w') : wpList Try.prog ops Q (o :: rest) a w := by
  obtain ⟨i0, hi0, hz0, hz1, hz2⟩ := info_parts flInfo
  obtain ⟨p, c, rfl, hc, hp⟩ := hsx
  by_cases hy : ys = []
  · subst hy
    cases p with
    | none =>
      obtain rfl := hnil c rfl
      refine wpList_append_own_none hgd s x 32 ho base 24 i0 1 Try.underlying32 hi0 v n xs hs hown hx ?_
      refine h v w ?_ (grown_refl _ _) (Or.inl rfl)
      simpa [fls] using hown
    | some ad =>
      refine wp_append_where_m w hgd s x 32 ho base 24 i0 _ 1 8 Try.underlying32 hi0 hz0 hz1 hz2 rfl (by decide) v n xs hs hown ad 0 c [] hx rfl ?_ ?_ ?_ ?_ hbase h
      · intro j u hj; cases hj
      · intro u hu; cases hu
      · unfold maxLen; simp at hn; omega
      · simp at hn; omega
  · obtain ⟨g, o', rfl, hg, hcell⟩ := hp hy
    refine wp_append_where_m w hgd s x 32 ho base 24 i0 _ 1 8 Try.underlying32 hi0 hz0 hz1 hz2 rfl (by decide) v n xs hs hown ⟨g, o', none⟩ ys.length c (fls ys) hx (by simp [fls]) ?_ (fls_one ys) ?_ ?_ hbase h
    · intro j u hj
      have hjl : j < ys.length := by rw [← fls_len]; exact (List.getElem?_eq_some_iff.1 hj).1
      rw [Addr.add_mid, hcell j hjl]
      rw [fls_at ys j hjl] at hj
      exact hj
    · unfold maxLen; omega
    · omega

theorem row_flit (w : World) (x : Nat) (t : TypeId) : RowFl (w.alloc (.cells #[.float .f64 x] t)) (.slice (some ⟨w.heap.size, 0, none⟩) 1 1) [x] := by
  refine ⟨_, 1, rfl, Nat.le_refl _, fun _ => ⟨w.heap.size, 0, rfl, by simp, fun j hj => ?_⟩⟩
  have : j = 0 := by simp at hj; omega
  subst this
  rw [cell_of_row _ _ _ _ _ _ (heap_alloc_new w _)]
  rfl

theorem fls_set (l : List Nat) (i : Nat) (v : Nat) : (fls l).set i (.float .f64 v) = fls (l.set i v) := by simp [fls, List.map_set]

/-- A row of floats that came in, wherever it lies. -/
def ArgFls (w : World) (a : Value) (l : List Nat) : Prop :=
  ∃ p c, a = .slice p l.length c ∧ ∀ i (hi : i < l.length), ∃ ad : Addr, p = some ad ∧ ad.block < w.heap.size ∧ w.cell? (ad.add i) = some (.float .f64 l[i])

theorem ArgFls.on {w w' : World} {a : Value} {l : List Nat} (h : ArgFls w a l) (hb : Below w.heap.size w w') : ArgFls w' a l := by
  obtain ⟨p, c, rfl, hp⟩ := h
  refine ⟨p, c, rfl, fun i hi => ?_⟩
  obtain ⟨ad, rfl, hl, hc⟩ := hp i hi
  exact ⟨ad, rfl, Nat.lt_of_lt_of_le hl hb.size, by rw [hb.cell (p := ad.add i) (by rw [add_block]; exact hl)]; exact hc⟩

theorem RowFl.arg {w : World} {a : Value} {l : List Nat} (h : RowFl w a l) : ArgFls w a l := by
  obtain ⟨p, c, rfl, _, hp⟩ := h
  refine ⟨p, c, rfl, fun i hi => ?_⟩
  obtain ⟨g, o, rfl, hg, hcell⟩ := hp (fun h => by rw [h] at hi; cases hi)
  exact ⟨⟨g, o, none⟩, rfl, hg, by rw [Addr.add_mid]; exact hcell i hi⟩

/-- The copy while it is being filled. -/
def ffilling (l : List Nat) (i : Nat) : List Nat := l.take i ++ fnoughts (l.length - i)

theorem ffilling_len (l : List Nat) (i : Nat) (h : i ≤ l.length) : (ffilling l i).length = l.length := by unfold ffilling; rw [List.length_append, List.length_take, fnoughts_len]; omega

theorem ffilling_all (l : List Nat) : ffilling l l.length = l := by unfold ffilling; rw [List.take_of_length_le (Nat.le_refl _), Nat.sub_self]; simp [fnoughts]

theorem ffilling_set (l : List Nat) (i : Nat) (h : i < l.length) : (ffilling l i).set i l[i] = ffilling l (i + 1) := by
  unfold ffilling
  have h1 : (l.take i).length = i := by rw [List.length_take]; omega
  rw [List.set_append, if_neg (by omega), h1, Nat.sub_self, show l.length - i = (l.length - (i + 1)) + 1 by omega]
  unfold fnoughts
  rw [List.replicate_succ, List.set_cons_zero, List.take_succ_eq_append_getElem h, List.append_assoc, List.singleton_append]

set_option maxRecDepth 20000 in
set_option maxHeartbeats 1000000 in
theorem to_fls (l : List Nat) (hn : l.length ≤ 1048576) (a : Value) (w : World) (ha : ArgFls w a l) :
    Calls Try.prog 16 #[a] w fun e w' => e = .returned (.slice (some ⟨w.heap.size, 0, none⟩) l.length l.length) ∧ Below w.heap.size w w' ∧ w'.ownsRow w.heap.size 24 1 (.slice (some ⟨w.heap.size, 0, none⟩) l.length l.length) l.length (fls l) := by
  obtain ⟨p, c, rfl, hp⟩ := ha
  have HP := hid hp
  clear hp
  obtain ⟨i0, hi0, hz0, hz1, hz2⟩ := info_parts flInfo
  obtain ⟨wm, hrun, hown, hgr⟩ := run_make_full (P := Try.prog) w w.heap.size 32 24 i0 _ 1 Try.underlying32 hi0 hz0 hz1 .i64 .i64 l.length (by rw [hz2]; omega) (by unfold maxLen; omega) (Nat.le_refl _)
  have hcells : (madeCells (Value.float .f64 0).cells (l.length * 1)).toList = fls (ffilling l 0) := by
    rw [Nat.mul_one]
    show (madeCells #[Value.float .f64 0] l.length).toList = _
    rw [toList_madeCells_one]
    simp [fls, ffilling, fnoughts]
  rw [hcells] at hown
  have hbm : Below w.heap.size w wm := ⟨hgr.os, hgr.tape, hgr.output, hgr.size, fun k hk => hgr.block k hk (by simp)⟩
  have HB := hid hbm
  have HO := hid hown
  have hzm := hgr.size
  clear hown hcells hgr hi0 hz0 hz1 hz2 hbm
  go_enter Try.func16, Try.ntmps16
  go_wp2
  go_loopw [4] (fun iv wr => ∃ i : Nat, i ≤ l.length ∧ iv = .int .i64 i ∧ Below w.heap.size w wr ∧ wr.ownsRow w.heap.size 24 1 (.slice (some ⟨w.heap.size, 0, none⟩) l.length l.length) l.length (fls (ffilling l i))) (fun iv _ => l.length - (RowKit.intOf iv).toNat)
  case atStart => exact ⟨0, Nat.zero_le _, rfl, HB.out, HO.out⟩
  case round =>
    obtain ⟨i, hi, rfl, hbel, hown⟩ := hrel
    have HB2 := hid hbel
    have HO2 := hid hown
    by_cases hlt : i < l.length
    · obtain ⟨ad, rfl, hbl, hc⟩ := HP.out i hlt
      have hc1 : wr.cell? (ad.add i) = some (.float .f64 l[i]) := by rw [hbel.cell (p := ad.add i) (by rw [add_block]; exact hbl)]; exact hc
      have hc2 := hown.cellAt i (by omega)
      rw [fls_at _ i (by rw [ffilling_len l i hi]; exact hlt)] at hc2
      have hf2 := hown.frozenAt i
      have HF := hid (hown.stored i (.float .f64 l[i])).1
      rw [fls_set, ffilling_set l i hlt] at HF
      clear hbel hown hc hrun
      generalize l[i] = x at *
      generalize (ffilling l i)[i]'_ = y at hc2
      go_wp2
      go_roundw
      case rel => exact ⟨i + 1, by omega, by go_num, HB2.out.setCell (p := ⟨w.heap.size, i, none⟩) (Nat.le_refl _) _, HF.out⟩
      case measure => simp [RowKit.intOf]; omega
    · have hie : i = l.length := by omega
      subst hie
      clear hbel hown hrun
      go_wp2
      go_ret
      exact ⟨rfl, HB2.out, by have := HO2.out; rw [ffilling_all] at this; exact this⟩

theorem eq_fls (l : List Nat) (hn : l.length ≤ 1000000000) (a b : Value) (w : World) (ha : RowFl w a l) (hb : RowFl w b l) :
    Calls Try.prog 20 #[a, b] w fun e w' => e = .returned (.bool true) ∧ Below w.heap.size w w' := by
  obtain ⟨p, c, rfl, _, hp⟩ := ha
  obtain ⟨q, e, rfl, _, hq⟩ := hb
  have HP := hid hp
  have HQ := hid hq
  clear hp hq
  go_enter Try.func20, Try.ntmps20
  go_wp2
  go_loopw [5] (fun iv wr => ∃ i : Nat, i ≤ l.length ∧ iv = .int .i64 i ∧ Below w.heap.size w wr) (fun iv _ => l.length - (RowKit.intOf iv).toNat)
  case atStart => exact ⟨0, Nat.zero_le _, rfl, Below.refl _ _⟩
  case round =>
    obtain ⟨i, hi, rfl, hbel⟩ := hrel
    by_cases hlt : i < l.length
    · have hne : l ≠ [] := fun h => by rw [h] at hlt; cases hlt
      obtain ⟨g, o, rfl, hg, hc⟩ := HP.out hne
      obtain ⟨g2, o2, rfl, hg2, hc2⟩ := HQ.out hne
      have hc1 := hc i hlt
      have hc3 := hc2 i hlt
      rw [← hbel.cell (p := ⟨g, o + i, none⟩) hg] at hc1
      rw [← hbel.cell (p := ⟨g2, o2 + i, none⟩) hg2] at hc3
      clear hc hc2
      generalize l[i] = x at *
      have b1 : (0 : Int) ≤ (i : Int) := by omega
      have b2 : (i : Int) < (l.length : Int) := by omega
      go_wp2
      go_quiet ((go_at_call 12; exact Calls.quiet_of_same (same_float (FS.some x) (FS.some x) _)))
      go_wp2
      go_roundw
      case rel => exact ⟨i + 1, by omega, by go_num, drewN_below hbel _⟩
      case measure => simp [RowKit.intOf]; omega
    · have hie : i = l.length := by omega
      subst hie
      go_wp2
      go_ret
      exact ⟨rfl, hbel⟩

/-- The marks from k on, so many. -/
def fmarks (k n : Nat) : List Nat := (List.range n).map fun i => floatOfInt .f64 ((k + i : Nat) : Int)

theorem fmarks_len (k n : Nat) : (fmarks k n).length = n := by simp [fmarks]

/-- The row while it is being marked. -/
def fmixed (l : List Nat) (k i : Nat) : List Nat := fmarks k i ++ l.drop i

theorem fmixed_len (l : List Nat) (k i : Nat) (h : i ≤ l.length) : (fmixed l k i).length = l.length := by unfold fmixed; rw [List.length_append, fmarks_len, List.length_drop]; omega

theorem fmixed_set (l : List Nat) (k i : Nat) (h : i < l.length) : (fmixed l k i).set i (floatOfInt .f64 ((k + i : Nat) : Int)) = fmixed l k (i + 1) := by
  unfold fmixed
  rw [List.set_append, if_neg (by rw [fmarks_len]; omega), fmarks_len, Nat.sub_self, List.drop_eq_getElem_cons h, List.set_cons_zero]
  unfold fmarks
  rw [List.range_succ, List.map_append, List.map_singleton, List.append_assoc, List.singleton_append]

theorem fmixed_all (l : List Nat) (k : Nat) : fmixed l k l.length = fmarks k l.length := by unfold fmixed; rw [List.drop_of_length_le (Nat.le_refl _), List.append_nil]

end Go.Proofs.Ythpnlhbfginkjaa
