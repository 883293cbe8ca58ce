/- Rows of integers, without what the words that stay want: append, a copy, two held against each other, marks. -/
import Derived.Test.YtedmancgpjpecaaBase
import Derived.Test.YtedmancgpjpecaaIntRows
import Derived.Test.YtedmancgpjpecaaAppendWhere
import Derived.Laws.AppendOwnNone
import Derived.Laws.MakeOwn
import Derived.Laws.OwnMore
import Derived.Deep.RegionWith
import Derived.Deep.QuietTactic
import Derived.BigQuiet
namespace Go.Proofs.Ytedmancgpjpecaa
open Go.RowKit
open Go.Lib (hid)

def noughts (n : Nat) : List Int := List.replicate n 0

theorem noughts_len (n : Nat) : (noughts n).length = n := by simp [noughts]

/-- A slice of integers, wherever it begins in its block. -/
def RowIn (w : World) (a : Value) (l : List Int) : Prop :=
  ∃ p c, a = .slice p l.length c ∧ l.length ≤ c ∧ (l ≠ [] → ∃ g o, p = some ⟨g, o, none⟩ ∧ g < w.heap.size ∧ ∀ j (h : j < l.length), w.cell? ⟨g, o + j, none⟩ = some (.int .i64 l[j]))

theorem RowIn.on {w w' : World} {a : Value} {l : List Int} (h : RowIn w a l) (hb : Below w.heap.size w w') : RowIn w' a l := by
  obtain ⟨p, c, rfl, hc, hp⟩ := h
  refine ⟨p, c, rfl, hc, fun hne => ?_⟩
  obtain ⟨g, o, rfl, hg, hcell⟩ := hp hne
  exact ⟨g, o, rfl, Nat.lt_of_lt_of_le hg hb.size, fun j hj => by rw [hb.cell (p := ⟨g, o + j, none⟩) hg]; exact hcell j hj⟩

theorem row_in_own {w : World} {base : Nat} {a : Value} {l : List Int} (h : w.ownsRow base 2 1 a l.length (ints l)) : RowIn w a l := by
  rcases h.2 with ⟨hv, hz⟩ | ⟨g, cap, cur, e1, hbg, hg, hnc, _⟩
  · have hl : l = [] := List.eq_nil_of_length_eq_zero hz
    subst hl
    exact ⟨none, 0, hv, Nat.le_refl _, fun h => absurd rfl h⟩
  · refine ⟨_, cap, e1, hnc, fun _ => ⟨g, 0, rfl, (Array.getElem?_eq_some_iff.1 hg).1, fun j hj => ?_⟩⟩
    have := h.cells (g := g) (by rw [e1]; rfl) j (.int .i64 l[j]) (ints_at l j hj)
    rw [Addr.add_mid] at this
    exact this

theorem row_in_own2 {w : World} {base n : Nat} {a : Value} {l : List Int} (hn : n = l.length) (h : w.ownsRow base 2 1 a n (ints l)) : RowIn w a l := by
  subst hn
  exact row_in_own h

theorem own_raise {w : World} {base base' n : Nat} {e : TypeId} {v : Value} {xs : List Value} (h : w.ownsRow base e 1 v n xs) (hb : base' ≤ base) : w.ownsRow base' e 1 v n xs :=
  ⟨h.1, h.2.imp id fun ⟨g, cap, cur, a1, a2, a3⟩ => ⟨g, cap, cur, a1, Nat.le_trans hb a2, a3⟩⟩

theorem intInfo : (Try.prog.info? 2).map (fun i => (i.zero, i.size, i.bytes)) = some (some (.int .i64 0), 1, 8) := by kernel_rfl

/-- A whole slice of integers more on a slice of integers that the call has made. -/
theorem wp_append_ints {w : World} {ops : Array Oper} {rest : List Oper} {o : Oper} {a : Act} {Q : Exit → Act → World → Prop} (hgd : o.guard = none) (s x : Operand)
    (ho : o.op = .call { callee := .builtin .append, args := #[s, x], argTypes := #[36, 36] }) (base : Nat)
    (v : Value) (n : Nat) (xs : List Value) (hs : a.eval s = v) (hown : w.ownsRow base 2 1 v n xs)
    (sx : Value) (ys : List Int) (hx : a.eval x = sx) (hsx : RowIn w sx ys) (hn : n + ys.length ≤ 1000000000) (hbase : base ≤ w.heap.size) (hnil : ∀ c, sx = .slice none ys.length c → c = 0)
    (h : ∀ v' w', w'.ownsRow base 2 1 v' (n + ys.length) (xs ++ ints ys) → w.grownBy w' v.ownBlock → (v'.ownBlock = v.ownBlock ∨ v'.ownBlock = some w.heap.size) → wpList Try.prog ops Q rest (a.put o.dst v') w') : wpList Try.prog ops Q (o :: rest) a w := by
  obtain ⟨i0, hi0, hz0, hz1, hz2⟩ := info_parts intInfo
  obtain ⟨p, c, rfl, hc, hp⟩ := hsx
  by_cases hy : ys = []
  · subst hy
    cases p with
    | none =>
      obtain rfl := hnil c rfl
      refine wpList_append_own_none hgd s x 36 ho base 2 i0 1 Try.underlying36 hi0 v n xs hs hown hx ?_
      refine h v w ?_ (grown_refl _ _) (Or.inl rfl)
      simpa [ints] using hown
    | some ad =>
      refine wp_append_where_m w hgd s x 36 ho base 2 i0 _ 1 8 Try.underlying36 hi0 hz0 hz1 hz2 rfl (by decide) v n xs hs hown ad 0 c [] hx rfl ?_ ?_ ?_ ?_ hbase h
      · intro j u hj; cases hj
      · intro u hu; cases hu
      · unfold maxLen; simp at hn; omega
      · simp at hn; omega
  · obtain ⟨g, o', rfl, hg, hcell⟩ := hp hy
    refine wp_append_where_m w hgd s x 36 ho base 2 i0 _ 1 8 Try.underlying36 hi0 hz0 hz1 hz2 rfl (by decide) v n xs hs hown ⟨g, o', none⟩ ys.length c (ints ys) hx (by simp [ints]) ?_ (ints_one ys) ?_ ?_ hbase h
    · intro j u hj
      have hjl : j < ys.length := by rw [← ints_len]; exact (List.getElem?_eq_some_iff.1 hj).1
      rw [Addr.add_mid, hcell j hjl]
      rw [ints_at ys j hjl] at hj
      exact hj
    · unfold maxLen; omega
    · omega

theorem row_lit (w : World) (x : Int) (t : TypeId) : RowIn (w.alloc (.cells #[.int .i64 x] t)) (.slice (some ⟨w.heap.size, 0, none⟩) 1 1) [x] := by
  refine ⟨_, 1, rfl, Nat.le_refl _, fun _ => ⟨w.heap.size, 0, rfl, by simp, fun j hj => ?_⟩⟩
  have : j = 0 := by simp at hj; omega
  subst this
  rw [cell_of_row _ _ _ _ _ _ (heap_alloc_new w _)]
  rfl

theorem own_form {w : World} {base n : Nat} {e : TypeId} {v : Value} {xs : List Value} (h : w.ownsRow base e 1 v n xs) (hn : 0 < n) : ∃ g c, v = .slice (some ⟨g, 0, none⟩) n c ∧ base ≤ g ∧ g < w.heap.size := by
  rcases h.2 with ⟨_, h0⟩ | ⟨g, cap, cur, hv, hb, hg, _⟩
  · omega
  · exact ⟨g, cap, hv, hb, (Array.getElem?_eq_some_iff.1 hg).1⟩

theorem ints_set (l : List Int) (i : Nat) (v : Int) : (ints l).set i (.int .i64 v) = ints (l.set i v) := by simp [ints, List.map_set]

/-- A row of integers that came in, wherever it lies. -/
def ArgInts (w : World) (a : Value) (l : List Int) : Prop :=
  ∃ p c, a = .slice p l.length c ∧ ∀ i (hi : i < l.length), ∃ ad : Addr, p = some ad ∧ ad.block < w.heap.size ∧ w.cell? (ad.add i) = some (.int .i64 l[i])

theorem ArgInts.on {w w' : World} {a : Value} {l : List Int} (h : ArgInts w a l) (hb : Below w.heap.size w w') : ArgInts w' a l := by
  obtain ⟨p, c, rfl, hp⟩ := h
  refine ⟨p, c, rfl, fun i hi => ?_⟩
  obtain ⟨ad, rfl, hl, hc⟩ := hp i hi
  exact ⟨ad, rfl, Nat.lt_of_lt_of_le hl hb.size, by rw [hb.cell (p := ad.add i) (by rw [add_block]; exact hl)]; exact hc⟩

theorem RowIn.arg {w : World} {a : Value} {l : List Int} (h : RowIn w a l) : ArgInts w a l := by
  obtain ⟨p, c, rfl, _, hp⟩ := h
  refine ⟨p, c, rfl, fun i hi => ?_⟩
  obtain ⟨g, o, rfl, hg, hcell⟩ := hp (fun h => by rw [h] at hi; cases hi)
  exact ⟨⟨g, o, none⟩, rfl, hg, by rw [Addr.add_mid]; exact hcell i hi⟩

/-- The copy while it is being filled. -/
def filling (l : List Int) (i : Nat) : List Int := l.take i ++ noughts (l.length - i)

theorem filling_len (l : List Int) (i : Nat) (h : i ≤ l.length) : (filling l i).length = l.length := by unfold filling; rw [List.length_append, List.length_take, noughts_len]; omega

theorem filling_all (l : List Int) : filling l l.length = l := by unfold filling; rw [List.take_of_length_le (Nat.le_refl _), Nat.sub_self]; simp [noughts]

theorem filling_set (l : List Int) (i : Nat) (h : i < l.length) : (filling l i).set i l[i] = filling l (i + 1) := by
  unfold filling
  have h1 : (l.take i).length = i := by rw [List.length_take]; omega
  rw [List.set_append, if_neg (by omega), h1, Nat.sub_self, show l.length - i = (l.length - (i + 1)) + 1 by omega]
  unfold noughts
  rw [List.replicate_succ, List.set_cons_zero, List.take_succ_eq_append_getElem h, List.append_assoc, List.singleton_append]

theorem eq_ints (l : List Int) (hn : l.length ≤ 1000000000) (a b : Value) (w : World) (ha : RowIn w a l) (hb : RowIn w b l) :
    Calls Try.prog 28 #[a, b] w fun e w' => e = .returned (.bool true) ∧ Below w.heap.size w w' := by
  obtain ⟨p, c, rfl, _, hp⟩ := ha
  obtain ⟨q, e, rfl, _, hq⟩ := hb
  have HP := hid hp
  have HQ := hid hq
  clear hp hq
  go_enter Try.func28, Try.ntmps28
  go_wp2
  go_loopw [5] (fun iv wr => ∃ i : Nat, i ≤ l.length ∧ iv = .int .i64 i ∧ Below w.heap.size w wr) (fun iv _ => l.length - (RowKit.intOf iv).toNat)
  case atStart => exact ⟨0, Nat.zero_le _, rfl, Below.refl _ _⟩
  case round =>
    obtain ⟨i, hi, rfl, hbel⟩ := hrel
    by_cases hlt : i < l.length
    · have hne : l ≠ [] := fun h => by rw [h] at hlt; cases hlt
      obtain ⟨g, o, rfl, hg, hc⟩ := HP.out hne
      obtain ⟨g2, o2, rfl, hg2, hc2⟩ := HQ.out hne
      have hc1 := hc i hlt
      have hc3 := hc2 i hlt
      rw [← hbel.cell (p := ⟨g, o + i, none⟩) hg] at hc1
      rw [← hbel.cell (p := ⟨g2, o2 + i, none⟩) hg2] at hc3
      clear hc hc2
      generalize l[i] = x at *
      have b1 : (0 : Int) ≤ (i : Int) := by omega
      have b2 : (i : Int) < (l.length : Int) := by omega
      go_wp2
      go_quiet (fail)
      go_wp2
      go_roundw
      case rel => exact ⟨i + 1, by omega, by go_num, drewN_below hbel _⟩
      case measure => simp [RowKit.intOf]; omega
    · have hie : i = l.length := by omega
      subst hie
      go_wp2
      go_ret
      exact ⟨rfl, hbel⟩

/-- The marks from k on, so many. -/
def imarks (k n : Nat) : List Int := (List.range n).map fun i => ((k + i : Nat) : Int)

theorem imarks_len (k n : Nat) : (imarks k n).length = n := by simp [imarks]

theorem imarks_at (k n i : Nat) (h : i < n) : (imarks k n)[i]'(by rw [imarks_len]; exact h) = ((k + i : Nat) : Int) := by simp [imarks]

theorem held_ints (k n : Nat) (hn : k + n ≤ 1000000000) (a : Value) (w : World) (ha : RowIn w a (imarks k n)) :
    Calls Try.prog 31 #[a, .int .i64 k] w fun e w' => e = .returned (.int .i64 ((k + n : Nat) : Int)) ∧ Below w.heap.size w w' := by
  obtain ⟨p, c, rfl, _, hp⟩ := ha
  rw [imarks_len]
  have HP := hid hp
  clear hp
  go_enter Try.func31, Try.ntmps31
  go_wp2
  go_loopw [1, 5] (fun kv iv wr => ∃ i : Nat, i ≤ n ∧ iv = .int .i64 i ∧ kv = .int .i64 ((k + i : Nat) : Int) ∧ wr = w) (fun _ iv _ => n - (RowKit.intOf iv).toNat)
  case atStart => exact ⟨0, Nat.zero_le _, rfl, rfl, rfl⟩
  case round =>
    obtain ⟨i, hi, rfl, rfl, rfl⟩ := hrel
    by_cases hlt : i < n
    · have hne : imarks k n ≠ [] := fun h => by
        have := imarks_len k n
        rw [h] at this
        simp at this
        omega
      obtain ⟨g, o, rfl, hg, hc⟩ := HP.out hne
      have hc1 := hc i (by rw [imarks_len]; exact hlt)
      rw [imarks_at k n i hlt] at hc1
      clear hc
      go_wp2
      go_roundw
      case rel => exact ⟨i + 1, by omega, by go_num, by go_num, trivial⟩
      case measure => simp [RowKit.intOf]; omega
    · have hie : i = n := by omega
      subst hie
      go_wp2
      go_ret
      exact ⟨rfl, Below.refl _ _⟩

/-- The row while it is being marked. -/
def imixed (l : List Int) (k i : Nat) : List Int := imarks k i ++ l.drop i

theorem imixed_len (l : List Int) (k i : Nat) (h : i ≤ l.length) : (imixed l k i).length = l.length := by unfold imixed; rw [List.length_append, imarks_len, List.length_drop]; omega

theorem imixed_set (l : List Int) (k i : Nat) (h : i < l.length) : (imixed l k i).set i ((k + i : Nat) : Int) = imixed l k (i + 1) := by
  unfold imixed
  rw [List.set_append, if_neg (by rw [imarks_len]; omega), imarks_len, Nat.sub_self, List.drop_eq_getElem_cons h, List.set_cons_zero]
  unfold imarks
  rw [List.range_succ, List.map_append, List.map_singleton, List.append_assoc, List.singleton_append]

theorem imixed_all (l : List Int) (k : Nat) : imixed l k l.length = imarks k l.length := by unfold imixed; rw [List.drop_of_length_le (Nat.le_refl _), List.append_nil]

set_option maxHeartbeats 1000000 in
theorem mark_ints (l : List Int) (k : Nat) (hn : k + l.length ≤ 1000000000) (base : Nat) (a : Value) (w : World) (ha : w.ownsRow base 2 1 a l.length (ints l)) :
    Calls Try.prog 30 #[a, .int .i64 k] w fun e w' => e = .returned (.int .i64 ((k + l.length : Nat) : Int)) ∧ w.grownBy w' a.ownBlock ∧ w'.ownsRow base 2 1 a l.length (ints (imarks k l.length)) := by
  by_cases hz : l.length = 0
  · have hl : l = [] := List.eq_nil_of_length_eq_zero hz
    obtain ⟨p, c, rfl, _⟩ := row_in_own ha
    have HA := hid ha
    clear ha
    go_enter Try.func30, Try.ntmps30
    go_wp2
    go_loopw [1, 5] (fun kv iv wr => iv = .int .i64 0 ∧ kv = .int .i64 k ∧ wr = w) (fun _ iv _ => 0)
    case atStart => exact ⟨rfl, rfl, rfl⟩
    case round =>
      obtain ⟨rfl, rfl, rfl⟩ := hrel
      go_wp2
      go_ret
      refine ⟨by rw [hz]; rfl, grown_refl _ _, ?_⟩
      subst hl
      exact HA.out
  · obtain ⟨g, c, rfl, hbg, hgl0⟩ := own_form ha (by omega)
    have HA := hid ha
    clear ha
    go_enter Try.func30, Try.ntmps30
    go_wp2
    go_loopw [1, 5] (fun kv iv wr => ∃ i : Nat, i ≤ l.length ∧ iv = .int .i64 i ∧ kv = .int .i64 ((k + i : Nat) : Int) ∧ w.grownBy wr (some g) ∧ wr.ownsRow base 2 1 (.slice (some ⟨g, 0, none⟩) l.length c) l.length (ints (imixed l k i))) (fun _ iv _ => l.length - (RowKit.intOf iv).toNat)
    case atStart => exact ⟨0, Nat.zero_le _, rfl, rfl, grown_refl _ _, by have := HA.out; simpa [imixed, imarks] using this⟩
    case round =>
      obtain ⟨i, hi, rfl, rfl, hgr, hown⟩ := hrel
      have HG := hid hgr
      by_cases hlt : i < l.length
      · have hc1 := hown.cellAt i (by omega)
        rw [ints_at _ i (by rw [imixed_len l k i hi]; exact hlt)] at hc1
        have hf1 := hown.frozenAt i
        have HS := hid (hown.stored i (.int .i64 ((k + i : Nat) : Int)))
        rw [ints_set, imixed_set l k i hlt] at HS
        clear hown hgr
        generalize (imixed l k i)[i]'_ = y at hc1
        go_wp2
        go_roundw
        case rel => exact ⟨i + 1, by omega, by go_num, by go_num, grown_trans HG.out HS.out.2, HS.out.1⟩
        case measure => simp [RowKit.intOf]; omega
      · have hie : i = l.length := by omega
        subst hie
        have HO := hid hown
        clear hown hgr
        go_wp2
        go_ret
        exact ⟨rfl, HG.out, by have := HO.out; rw [imixed_all] at this; exact this⟩
end Go.Proofs.Ytedmancgpjpecaa
