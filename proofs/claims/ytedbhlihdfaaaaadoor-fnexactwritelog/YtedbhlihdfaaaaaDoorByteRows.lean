/- Rows of bytes: held against each other, marked, asked for their marks; one byte more, a text more. -/
import Derived.Test.YtedbhlihdfaaaaaDoorTouchKit
import Derived.Test.YtedbhlihdfaaaaaDoorAppendWhere
import Derived.Test.YtedbhlihdfaaaaaDoorFlatRow
import Derived.Deep.QuietTactic
import Derived.Deep.MidRow
import Derived.BigQuiet
import Derived.Lib.AppendStr
namespace Go.Proofs.YtedbhlihdfaaaaaDoor
open Go.RowKit
open Go.Lib (hid)

def bys (l : List Int) : List Value := l.map fun x => .int .u8 x

theorem bys_len (l : List Int) : (bys l).length = l.length := by simp [bys]

theorem bys_at (l : List Int) (i : Nat) (h : i < l.length) : (bys l)[i]? = some (.int .u8 l[i]) := by simp [bys, h]

theorem bys_set (l : List Int) (i : Nat) (v : Int) : (bys l).set i (.int .u8 v) = bys (l.set i v) := by simp [bys, List.map_set]

theorem bys_app (a b : List Int) : bys (a ++ b) = bys a ++ bys b := by simp [bys]

/-- A slice of bytes, wherever it begins in its block. -/
def RowB (w : World) (a : Value) (l : List Int) : Prop :=
  ∃ p c, a = .slice p l.length c ∧ l.length ≤ c ∧ (l ≠ [] → ∃ g o, p = some ⟨g, o, none⟩ ∧ g < w.heap.size ∧ ∀ j (h : j < l.length), w.cell? ⟨g, o + j, none⟩ = some (.int .u8 l[j]))

theorem RowB.on {w w' : World} {a : Value} {l : List Int} (h : RowB w a l) (hb : Below w.heap.size w w') : RowB w' a l := by
  obtain ⟨p, c, rfl, hc, hp⟩ := h
  refine ⟨p, c, rfl, hc, fun hne => ?_⟩
  obtain ⟨g, o, rfl, hg, hcell⟩ := hp hne
  exact ⟨g, o, rfl, Nat.lt_of_lt_of_le hg hb.size, fun j hj => by rw [hb.cell (p := ⟨g, o + j, none⟩) hg]; exact hcell j hj⟩

theorem row_b_own {w : World} {base : Nat} {a : Value} {l : List Int} (h : w.ownsRow base 5 1 a l.length (bys l)) : RowB w a l := by
  rcases h.2 with ⟨hv, hz⟩ | ⟨g, cap, cur, e1, hbg, hg, hnc, _⟩
  · have hl : l = [] := List.eq_nil_of_length_eq_zero hz
    subst hl
    exact ⟨none, 0, hv, Nat.le_refl _, fun h => absurd rfl h⟩
  · refine ⟨_, cap, e1, hnc, fun _ => ⟨g, 0, rfl, (Array.getElem?_eq_some_iff.1 hg).1, fun j hj => ?_⟩⟩
    have := h.cells (g := g) (by rw [e1]; rfl) j (.int .u8 l[j]) (bys_at l j hj)
    rw [Addr.add_mid] at this
    exact this

theorem row_b_own2 {w : World} {base n : Nat} {a : Value} {l : List Int} (hn : n = l.length) (h : w.ownsRow base 5 1 a n (bys l)) : RowB w a l := by
  subst hn
  exact row_b_own h

theorem bown_form {w : World} {base n : Nat} {e : TypeId} {v : Value} {xs : List Value} (h : w.ownsRow base e 1 v n xs) (hn : 0 < n) : ∃ g c, v = .slice (some ⟨g, 0, none⟩) n c ∧ base ≤ g ∧ g < w.heap.size := by
  rcases h.2 with ⟨_, h0⟩ | ⟨g, cap, cur, hv, hb, hg, _⟩
  · omega
  · exact ⟨g, cap, hv, hb, (Array.getElem?_eq_some_iff.1 hg).1⟩

theorem byteInfo : (Tryd.prog.info? 5).map (fun i => (i.zero, i.size, i.bytes)) = some (some (.int .u8 0), 1, 1) := by kernel_rfl

/-- One byte more on a slice of bytes that the call has made. -/
theorem wp_append_byte {w : World} {ops : Array Oper} {rest : List Oper} {o : Oper} {a : Act} {Q : Exit → Act → World → Prop} (hgd : o.guard = none) (s x : Operand)
    (ho : o.op = .call { callee := .builtin .append, args := #[s, x], argTypes := #[35, 35] }) (base : Nat)
    (v : Value) (l : List Int) (hs : a.eval s = v) (hown : w.ownsRow base 5 1 v l.length (bys l))
    (ad : Addr) (c : Nat) (y : Int) (hx : a.eval x = .slice (some ad) 1 c) (hcell : w.cell? ad = some (.int .u8 y)) (hn : l.length ≤ 1000000000) (hbase : base ≤ w.heap.size)
    (h : ∀ v' w', w'.ownsRow base 5 1 v' (l ++ [y]).length (bys (l ++ [y])) → w.grownBy w' v.ownBlock → (v'.ownBlock = v.ownBlock ∨ v'.ownBlock = some w.heap.size) → wpList Tryd.prog ops Q rest (a.put o.dst v') w') : wpList Tryd.prog ops Q (o :: rest) a w := by
  obtain ⟨i0, hi0, hz0, hz1, hz2⟩ := info_parts byteInfo
  refine wp_append_where w hgd s x 35 ho base 5 i0 _ 1 1 Tryd.underlying35 hi0 hz0 hz1 hz2 rfl (by decide) v l.length (bys l) hs hown ad c [.int .u8 y] hx rfl ?_ ?_ ?_ ?_ hbase (fun v' w' h1 h2 h3 => h v' w' (by rw [bys_app, List.length_append]; exact h1) h2 h3)
  · intro j u hj
    match j, hj with
    | 0, hj =>
      simp at hj; subst hj
      have : ad.add 0 = ad := by obtain ⟨b, of, sp⟩ := ad; unfold Addr.add; split <;> simp_all
      rw [this]
      exact hcell
  · intro u hu; simp at hu; subst hu; rfl
  · unfold maxLen; omega
  · omega

theorem bytes_grown (w : World) (base n : Nat) (xs : List Value) (y : Value) (old : Nat) (hx : xs.length = n) (h63 : n + 1 ≤ maxLen) (hbase : base ≤ w.heap.size) :
    (w.drew.alloc (.cells (xs.toArray ++ [y].toArray ++ Builtin.zeroCells (Value.int .u8 0).cells (grownCap w (n + 1) old 5 - (n + 1))) 5)).ownsRow base 5 1 (.slice (some ⟨w.heap.size, 0, none⟩) (n + 1) (grownCap w (n + 1) old 5)) (n + 1) (xs ++ [y]) := by
  have hge := grownCap_ge w (n + 1) old 5
  have hcm : grownCap w (n + 1) old 5 ≤ maxLen := grownCap_le_maxLen w (n + 1) old 5 h63
  have hlen : (xs ++ [y]).length = n + 1 := by rw [List.length_append, hx]; rfl
  refine ⟨by rw [hlen, Nat.mul_one], .inr ⟨w.heap.size, _, _, rfl, hbase, heap_alloc_new w.drew _, hge, hcm, ?_, ?_⟩⟩
  · simp only [Array.size_append, List.size_toArray, size_zeroCells, hx, List.length_singleton]
    have : (Value.int IntKind.u8 0).cells.size = 1 := rfl
    rw [this]
    omega
  · simp only [Array.toList_append, List.append_assoc]
    rw [← List.append_assoc, Nat.mul_one, ← hlen]
    exact List.take_left

/-- A row of bytes: one's own, or a full one that can be read. -/
def BRow (w : World) (base : Nat) (a : Value) (l : List Int) : Prop :=
  w.ownsRow base 5 1 a l.length (bys l) ∨ ∃ g, a = .slice (some ⟨g, 0, none⟩) l.length l.length ∧ base ≤ g ∧ g < w.heap.size ∧ ∀ j (h : j < l.length), w.cell? ⟨g, j, none⟩ = some (.int .u8 l[j])

theorem BRow.on {w w' : World} {base : Nat} {a : Value} {l : List Int} (h : BRow w base a l) (hb : Below w.heap.size w w') : BRow w' base a l := by
  rcases h with h | ⟨g, h1, h2, h3, h4⟩
  · exact .inl (own_below h hb)
  · exact .inr ⟨g, h1, h2, Nat.lt_of_lt_of_le h3 hb.size, fun j hj => (hb.cell (p := ⟨g, j, none⟩) h3).trans (h4 j hj)⟩

theorem BRow.alloc {w : World} {base : Nat} {a : Value} {l : List Int} (h : BRow w base a l) (o : Obj) : BRow (w.alloc o) base a l := h.on ((Below.refl _ _).alloc (Nat.le_refl _) o)

theorem BRow.lt {w : World} {base : Nat} {a : Value} {l : List Int} (h : BRow w base a l) (k : Nat) (hk : a.ownBlock = some k) : base ≤ k ∧ k < w.heap.size := by
  rcases h with h | ⟨g, rfl, h2, h3, h4⟩
  · exact h.lt k hk
  · have : g = k := Option.some.inj hk
    subst this
    exact ⟨h2, h3⟩

/-- One byte more on such a row. -/
theorem wp_append_brow {w : World} {ops : Array Oper} {rest : List Oper} {o : Oper} {a : Act} {Q : Exit → Act → World → Prop} (hgd : o.guard = none) (s x : Operand)
    (ho : o.op = .call { callee := .builtin .append, args := #[s, x], argTypes := #[35, 35] }) (base : Nat)
    (v : Value) (l : List Int) (hs : a.eval s = v) (hown : BRow w base v l)
    (ad : Addr) (c : Nat) (y : Int) (hx : a.eval x = .slice (some ad) 1 c) (hcell : w.cell? ad = some (.int .u8 y)) (hn : l.length ≤ 1000000000) (hbase : base ≤ w.heap.size)
    (h : ∀ v' w', w'.ownsRow base 5 1 v' (l ++ [y]).length (bys (l ++ [y])) → w.grownBy w' v.ownBlock → (v'.ownBlock = v.ownBlock ∨ v'.ownBlock = some w.heap.size) → wpList Tryd.prog ops Q rest (a.put o.dst v') w') : wpList Tryd.prog ops Q (o :: rest) a w := by
  rcases hown with hown | ⟨g, rfl, hg1, hg2, hgc⟩
  · exact wp_append_byte hgd s x ho base v l hs hown ad c y hx hcell hn hbase h
  · obtain ⟨i0, hi0, hz0, hz1, hz2⟩ := info_parts byteInfo
    have holds : ∀ j u, (bys l)[j]? = some u → w.cell? ((⟨g, 0, none⟩ : Addr).add j) = some u := fun j u hj => by
      have hjl : j < l.length := by have := (List.getElem?_eq_some_iff.1 hj).1; rwa [bys_len] at this
      rw [bys_at l j hjl] at hj
      rw [Addr.add_mid, Nat.zero_add, hgc j hjl]
      exact hj
    have hnews : ∀ j u, ([.int .u8 y] : List Value)[j]? = some u → w.cell? (ad.add j) = some u := fun j u hj => by
      match j, hj with
      | 0, hj =>
        simp at hj; subst hj
        have : ad.add 0 = ad := by obtain ⟨b, of, sp⟩ := ad; unfold Addr.add; split <;> simp_all
        rw [this]
        exact hcell
    have hr := run_append_grow (P := Tryd.prog) w 35 o.type 5 i0 (.int .u8 0) Tryd.underlying35 hi0 hz0 ⟨g, 0, none⟩ l.length l.length (bys l) (by rw [bys_len, hz1, Nat.mul_one]) holds ad 1 c [.int .u8 y] (by rw [hz1]; rfl) hnews (by omega) (by omega) (growslice_fits (by omega) (by rw [hz2]; omega))
    have hbg := bytes_grown w base l.length (bys l) (.int .u8 y) l.length (bys_len l) (by unfold maxLen; omega) hbase
    refine wpList_plain hgd fun K hK => ?_
    unfold Oper.wp execOp
    simp only [ho, resolve, invoke, builtin, Sem.run_bind, Sem.run_pure, Result.andThen_ok, List.map_toArray, List.map_cons, List.map_nil, hs, hx, hr]
    exact hK _ _ (h _ _ (by rw [bys_app, List.length_append]; exact hbg) ⟨rfl, rfl, rfl, by simp, fun k hk _ => heap_alloc_old w.drew _ hk⟩ (Or.inr rfl))

/-- The bytes of a text. -/
def strI (s : ByteArray) : List Int := s.data.toList.map fun b => (b.toNat : Int)

theorem strI_len (s : ByteArray) : (strI s).length = s.size := by simp [strI]

theorem strI_cells (s : ByteArray) : Lib.strCells s = bys (strI s) := by
  unfold Lib.strCells bys strI
  simp

theorem eq_bytes (l : List Int) (hn : l.length ≤ 1000000000) (a b : Value) (w : World) (ha : RowB w a l) (hb : RowB w b l) :
    Calls Tryd.prog 26 #[a, b] w fun e w' => e = .returned (.bool true) ∧ Below w.heap.size w w' := by
  obtain ⟨p, c, rfl, _, hp⟩ := ha
  obtain ⟨q, e, rfl, _, hq⟩ := hb
  have HP := hid hp
  have HQ := hid hq
  clear hp hq
  go_enter Tryd.func26, Tryd.ntmps26
  go_wp2
  go_loopw [5] (fun iv wr => ∃ i : Nat, i ≤ l.length ∧ iv = .int .i64 i ∧ Below w.heap.size w wr) (fun iv _ => l.length - (RowKit.intOf iv).toNat)
  case atStart => exact ⟨0, Nat.zero_le _, rfl, Below.refl _ _⟩
  case round =>
    obtain ⟨i, hi, rfl, hbel⟩ := hrel
    by_cases hlt : i < l.length
    · have hne : l ≠ [] := fun h => by rw [h] at hlt; cases hlt
      obtain ⟨g, o, rfl, hg, hc⟩ := HP.out hne
      obtain ⟨g2, o2, rfl, hg2, hc2⟩ := HQ.out hne
      have hc1 := hc i hlt
      have hc3 := hc2 i hlt
      rw [← hbel.cell (p := ⟨g, o + i, none⟩) hg] at hc1
      rw [← hbel.cell (p := ⟨g2, o2 + i, none⟩) hg2] at hc3
      clear hc hc2
      generalize l[i] = x at *
      have b1 : (0 : Int) ≤ (i : Int) := by omega
      have b2 : (i : Int) < (l.length : Int) := by omega
      go_wp2
      go_quiet (fail)
      go_wp2
      go_roundw
      case rel => exact ⟨i + 1, by omega, by go_num, drewN_below hbel _⟩
      case measure => simp [RowKit.intOf]; omega
    · have hie : i = l.length := by omega
      subst hie
      go_wp2
      go_ret
      exact ⟨rfl, hbel⟩

/-- The marks from k on, so many. -/
def bmarks (k n : Nat) : List Int := (List.range n).map fun i => IntKind.u8.wrap ((k + i : Nat) : Int)

theorem bmarks_len (k n : Nat) : (bmarks k n).length = n := by simp [bmarks]

theorem bmarks_at (k n i : Nat) (h : i < n) : (bmarks k n)[i]'(by rw [bmarks_len]; exact h) = IntKind.u8.wrap ((k + i : Nat) : Int) := by simp [bmarks]

theorem held_bytes (k n : Nat) (hn : k + n ≤ 1000000000) (a : Value) (w : World) (ha : RowB w a (bmarks k n)) :
    Calls Tryd.prog 30 #[a, .int .i64 k] w fun e w' => e = .returned (.int .i64 ((k + n : Nat) : Int)) ∧ Below w.heap.size w w' := by
  obtain ⟨p, c, rfl, _, hp⟩ := ha
  rw [bmarks_len]
  have HP := hid hp
  clear hp
  go_enter Tryd.func30, Tryd.ntmps30
  go_wp2
  go_loopw [1, 5] (fun kv iv wr => ∃ i : Nat, i ≤ n ∧ iv = .int .i64 i ∧ kv = .int .i64 ((k + i : Nat) : Int) ∧ wr = w) (fun _ iv _ => n - (RowKit.intOf iv).toNat)
  case atStart => exact ⟨0, Nat.zero_le _, rfl, rfl, rfl⟩
  case round =>
    obtain ⟨i, hi, rfl, rfl, rfl⟩ := hrel
    by_cases hlt : i < n
    · have hne : bmarks k n ≠ [] := fun h => by
        have := bmarks_len k n
        rw [h] at this
        simp at this
        omega
      obtain ⟨g, o, rfl, hg, hc⟩ := HP.out hne
      have hc1 := hc i (by rw [bmarks_len]; exact hlt)
      rw [bmarks_at k n i hlt] at hc1
      clear hc
      go_wp2
      go_roundw
      case rel => exact ⟨i + 1, by omega, by go_num, by go_num, trivial⟩
      case measure => simp [RowKit.intOf]; omega
    · have hie : i = n := by omega
      subst hie
      go_wp2
      go_ret
      exact ⟨rfl, Below.refl _ _⟩

/-- The row while it is being marked. -/
def bmixed (l : List Int) (k i : Nat) : List Int := bmarks k i ++ l.drop i

theorem bmixed_len (l : List Int) (k i : Nat) (h : i ≤ l.length) : (bmixed l k i).length = l.length := by unfold bmixed; rw [List.length_append, bmarks_len, List.length_drop]; omega

theorem bmixed_set (l : List Int) (k i : Nat) (h : i < l.length) : (bmixed l k i).set i (IntKind.u8.wrap ((k + i : Nat) : Int)) = bmixed l k (i + 1) := by
  unfold bmixed
  rw [List.set_append, if_neg (by rw [bmarks_len]; omega), bmarks_len, Nat.sub_self, List.drop_eq_getElem_cons h, List.set_cons_zero]
  unfold bmarks
  rw [List.range_succ, List.map_append, List.map_singleton, List.append_assoc, List.singleton_append]

theorem bmixed_all (l : List Int) (k : Nat) : bmixed l k l.length = bmarks k l.length := by unfold bmixed; rw [List.drop_of_length_le (Nat.le_refl _), List.append_nil]

set_option maxHeartbeats 1000000 in
theorem mark_bytes (l : List Int) (k : Nat) (hn : k + l.length ≤ 1000000000) (base : Nat) (a : Value) (w : World) (ha : w.ownsRow base 5 1 a l.length (bys l)) :
    Calls Tryd.prog 29 #[a, .int .i64 k] w fun e w' => e = .returned (.int .i64 ((k + l.length : Nat) : Int)) ∧ w.grownBy w' a.ownBlock ∧ w'.ownsRow base 5 1 a l.length (bys (bmarks k l.length)) := by
  by_cases hz : l.length = 0
  · have hl : l = [] := List.eq_nil_of_length_eq_zero hz
    obtain ⟨p, c, rfl, _⟩ := row_b_own ha
    have HA := hid ha
    clear ha
    go_enter Tryd.func29, Tryd.ntmps29
    go_wp2
    go_loopw [1, 5] (fun kv iv wr => iv = .int .i64 0 ∧ kv = .int .i64 k ∧ wr = w) (fun _ iv _ => 0)
    case atStart => exact ⟨rfl, rfl, rfl⟩
    case round =>
      obtain ⟨rfl, rfl, rfl⟩ := hrel
      go_wp2
      go_ret
      refine ⟨by rw [hz]; rfl, grown_refl _ _, ?_⟩
      subst hl
      exact HA.out
  · obtain ⟨g, c, rfl, hbg, hgl0⟩ := bown_form ha (by omega)
    have HA := hid ha
    clear ha
    go_enter Tryd.func29, Tryd.ntmps29
    go_wp2
    go_loopw [1, 5] (fun kv iv wr => ∃ i : Nat, i ≤ l.length ∧ iv = .int .i64 i ∧ kv = .int .i64 ((k + i : Nat) : Int) ∧ w.grownBy wr (some g) ∧ wr.ownsRow base 5 1 (.slice (some ⟨g, 0, none⟩) l.length c) l.length (bys (bmixed l k i))) (fun _ iv _ => l.length - (RowKit.intOf iv).toNat)
    case atStart => exact ⟨0, Nat.zero_le _, rfl, rfl, grown_refl _ _, by have := HA.out; simpa [bmixed, bmarks] using this⟩
    case round =>
      obtain ⟨i, hi, rfl, rfl, hgr, hown⟩ := hrel
      have HG := hid hgr
      by_cases hlt : i < l.length
      · have hc1 := hown.cellAt i (by omega)
        rw [bys_at _ i (by rw [bmixed_len l k i hi]; exact hlt)] at hc1
        have hf1 := hown.frozenAt i
        have HS := hid (hown.stored i (.int .u8 (IntKind.u8.wrap ((k + i : Nat) : Int))))
        rw [bys_set, bmixed_set l k i hlt] at HS
        clear hown hgr
        generalize (bmixed l k i)[i]'_ = y at hc1
        go_wp2
        go_roundw
        case rel => exact ⟨i + 1, by omega, by go_num, by go_num, grown_trans HG.out HS.out.2, HS.out.1⟩
        case measure => simp [RowKit.intOf]; omega
      · have hie : i = l.length := by omega
        subst hie
        have HO := hid hown
        clear hown hgr
        go_wp2
        go_ret
        exact ⟨rfl, HG.out, by have := HO.out; rw [bmixed_all] at this; exact this⟩
end Go.Proofs.YtedbhlihdfaaaaaDoor
