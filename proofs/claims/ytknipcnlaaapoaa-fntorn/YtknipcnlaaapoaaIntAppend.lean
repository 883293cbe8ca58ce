/- append on slices of integers that the call has made; conditions as in the library's laws. -/
import Derived.Test.YtknipcnlaaapoaaNvMake
import Derived.Test.YtknipcnlaaapoaaAppendWhere
import Derived.Laws.AppendOwnNone
import Derived.Lib.AppendZerosOnto
namespace Go.Proofs.Ytknipcnlaaapoaa
open Go.RowKit
open Go.Lib (hid)

/-- A whole slice of integers more on a slice of integers that the call has made. -/
theorem wp_append_ints {w : World} {ops : Array Oper} {rest : List Oper} {o : Oper} {a : Act} {Q : Exit → Act → World → Prop} (hgd : o.guard = none) (s x : Operand)
    (ho : o.op = .call { callee := .builtin .append, args := #[s, x], argTypes := #[24, 24] }) (base : Nat)
    (v : Value) (n : Nat) (xs : List Value) (hs : a.eval s = v) (hown : w.ownsRow base 2 1 v n xs)
    (sx : Value) (ys : List Int) (hx : a.eval x = sx) (hsx : RowIn w sx ys) (hn : n + ys.length ≤ 1000000000) (hbase : base ≤ w.heap.size) (hnil : ∀ c, sx = .slice none ys.length c → c = 0)
    (h : ∀ v' w', w'.ownsRow base 2 1 v' (n + ys.length) (xs ++ ints ys) → w.grownBy w' v.ownBlock → (v'.ownBlock = v.ownBlock ∨ v'.ownBlock = some w.heap.size) → wpList Try.prog ops Q rest (a.put o.dst v') w') : wpList Try.prog ops Q (o :: rest) a w := by
  obtain ⟨i0, hi0, hz0, hz1, hz2⟩ := info_parts intInfo
  obtain ⟨p, c, rfl, hc, hp⟩ := hsx
  by_cases hy : ys = []
  · subst hy
    cases p with
    | none =>
      obtain rfl := hnil c rfl
      refine wpList_append_own_none hgd s x 24 ho base 2 i0 1 Try.underlying24 hi0 v n xs hs hown hx ?_
      refine h v w ?_ (grown_refl _ _) (Or.inl rfl)
      simpa [ints] using hown
    | some ad =>
      refine wp_append_where_m w hgd s x 24 ho base 2 i0 _ 1 8 Try.underlying24 hi0 hz0 hz1 hz2 rfl (by decide) v n xs hs hown ad 0 c [] hx rfl ?_ ?_ ?_ ?_ hbase h
      · intro j u hj; cases hj
      · intro u hu; cases hu
      · unfold maxLen; simp at hn; omega
      · simp at hn; omega
  · obtain ⟨g, o', rfl, hg, hcell⟩ := hp hy
    refine wp_append_where_m w hgd s x 24 ho base 2 i0 _ 1 8 Try.underlying24 hi0 hz0 hz1 hz2 rfl (by decide) v n xs hs hown ⟨g, o', none⟩ ys.length c (ints ys) hx (by simp [ints]) ?_ (ints_one ys) ?_ ?_ hbase h
    · intro j u hj
      have hjl : j < ys.length := by rw [← ints_len]; exact (List.getElem?_eq_some_iff.1 hj).1
      rw [Addr.add_mid, hcell j hjl]
      rw [ints_at ys j hjl] at hj
      exact hj
    · unfold maxLen; omega
    · omega

theorem zeros_cells (k : Nat) : (Builtin.zeroCells (Value.int .i64 0).cells k) = (ints (noughts k)).toArray := by
  apply Array.ext'
  show (Builtin.zeroCells #[Value.int .i64 0] k).toList = _
  have e : ∀ i : Nat, [Value.int .i64 0][i % 1]?.getD default = Value.int .i64 0 := fun i => by simp [Nat.mod_one]
  simp [Builtin.zeroCells, ints, noughts, e, List.map_const']

/-- So many noughts more on a slice of integers that the call has made. -/
theorem append_zeros_own (w : World) (base : Nat) (v : Value) (n : Nat) (xs : List Value) (ty : TypeId) (hown : w.ownsRow base 2 1 v n xs) (h0 : 0 < n) (k : Nat) (hk : 0 < k) (hn : n + k ≤ 1000000000) (hbase : base ≤ w.heap.size) :
    ∃ v' w', (Builtin.append_ #[24, 3] ty #[v, .int .i64 k]).run Try.prog w = .ok v' w' ∧ w'.ownsRow base 2 1 v' (n + k) (xs ++ ints (noughts k)) ∧ w.grownBy w' v.ownBlock := by
  obtain ⟨i0, hi0, hz0, hz1, hz2⟩ := info_parts intInfo
  have hol := hown.1
  rcases hown.2 with ⟨_, hz⟩ | ⟨g, cap, cur, rfl, hbg, hg, hnc, hcm, hcs, htake⟩
  · omega
  · rw [Nat.mul_one] at hcs htake hol
    have hkl : (ints (noughts k)).length = k := by rw [ints_len, noughts_len]
    have hwr : IntKind.i64.wrap (k : Int) = k := by rw [IntKind.wrap_i64]; omega
    have hneg : ¬ ((k : Int) < 0) := by omega
    have h48i : ¬ (281474976710656 < (k : Int) * (i0.bytes : Int)) := by rw [hz2]; omega
    by_cases hroom : n + k ≤ cap
    · have hst := run_storeCells_at Try.prog g n 2 (ints (noughts k)) 0 cur w hg (by rw [hkl, hcs]; omega) (ints_one _)
      simp only [Nat.add_zero] at hst
      refine ⟨.slice (some ⟨g, 0, none⟩) (n + k) cap, w.setRow g (cur.toList.take n ++ ints (noughts k) ++ cur.toList.drop (n + (ints (noughts k)).length)).toArray, ?_, ?_, ?_⟩
      · have hkz : ¬ (k = 0) := by omega
        simp [Builtin.append_, run_underlying Try.underlying24, run_underlying Try.underlying3, sizeOf, typeInfo, zeroValue, hi0, hz0, hz1, asInt, asIntOf, hwr, hneg, h48i, hroom, hkz, Addr.add_mid, zeros_cells, hst]
      · refine ⟨by rw [List.length_append, hol, hkl, Nat.mul_one], Or.inr ⟨g, cap, _, rfl, hbg, setRow_heap _ _ _ _ _ _ hg, hroom, hcm, ?_, ?_⟩⟩
        · rw [Nat.mul_one]; simp only [List.size_toArray, List.length_append, List.length_take, List.length_drop, Array.length_toList, hkl]; omega
        · rw [Nat.mul_one, htake]
          have e : (xs ++ ints (noughts k)).length = n + k := by rw [List.length_append, hol, hkl]
          rw [← e]
          exact List.take_left
      · exact ⟨rfl, rfl, rfl, by simp, fun j hj hne => setRow_other w g j _ (fun e => hne (by rw [e]; rfl))⟩
    · have hold : (Builtin.firstCells i0.size n (.slice (some ⟨g, 0, none⟩) n cap)).run Try.prog w.drew = .ok xs.toArray w.drew := run_firstCells_some (P := Try.prog) w.drew i0.size n ⟨g, 0, none⟩ n cap xs (by rw [hz1, hol, Nat.mul_one]) (by have := hown.cells (g := g) rfl; simpa using this)
      have hr := Lib.run_append_grow_zeros (P := Try.prog) w 24 3 ty 2 i0 _ .i64 .i64 Try.underlying24 Try.underlying3 hi0 hz0 (some ⟨g, 0, none⟩) n cap xs hold k hk (by rw [hz1]; decide) (by omega) (by omega) (by rw [hz2]; omega) (growslice_fits (by omega) (by rw [hz2]; omega))
      have hge := grownCap_ge w (n + k) cap 2
      have hcm2 : grownCap w (n + k) cap 2 ≤ maxLen := grownCap_le_maxLen w (n + k) cap 2 (by unfold maxLen; omega)
      refine ⟨_, _, hr, ?_, ⟨rfl, rfl, rfl, by simp, fun j hj _ => Below.heap_alloc w.drew _ j hj⟩⟩
      refine ⟨by rw [List.length_append, hol, hkl, Nat.mul_one], Or.inr ⟨w.heap.size, _, _, rfl, hbase, heap_alloc_new w.drew _, hge, hcm2, ?_, ?_⟩⟩
      · rw [Nat.mul_one, zeros_cells, zeros_cells]
        simp only [Array.size_append, List.size_toArray, hkl, hol, ints_len, noughts_len]
        omega
      · rw [Nat.mul_one, zeros_cells]
        simp only [Array.toList_append]
        have e : (xs ++ ints (noughts k)).length = n + k := by rw [List.length_append, hol, hkl]
        rw [← e]
        exact List.take_left

theorem wp_append_zeros {w : World} {ops : Array Oper} {rest : List Oper} {o : Oper} {a : Act} {Q : Exit → Act → World → Prop} (hgd : o.guard = none) (s x : Operand)
    (ho : o.op = .call { callee := .builtin .append, args := #[s, x], argTypes := #[24, 3] }) (base : Nat)
    (v : Value) (n : Nat) (xs : List Value) (hs : a.eval s = v) (hown : w.ownsRow base 2 1 v n xs) (h0 : 0 < n) (k : Nat) (hx : a.eval x = .int .i64 k) (hk : 0 < k) (hn : n + k ≤ 1000000000) (hbase : base ≤ w.heap.size)
    (h : ∀ v' w', w'.ownsRow base 2 1 v' (n + k) (xs ++ ints (noughts k)) → w.grownBy w' v.ownBlock → wpList Try.prog ops Q rest (a.put o.dst v') w') : wpList Try.prog ops Q (o :: rest) a w := by
  obtain ⟨v', w', hr, h2, h3⟩ := append_zeros_own w base v n xs o.type hown h0 k hk hn hbase
  refine wpList_plain hgd fun K hK => ?_
  unfold Oper.wp execOp
  simp only [ho, resolve, invoke, builtin, Sem.run_bind, Sem.run_pure, Result.andThen_ok, List.map_toArray, List.map_cons, List.map_nil, hs, hx, hr]
  exact hK _ _ (h v' w' h2 h3)

theorem row_lit (w : World) (x : Int) (t : TypeId) : RowIn (w.alloc (.cells #[.int .i64 x] t)) (.slice (some ⟨w.heap.size, 0, none⟩) 1 1) [x] := by
  refine ⟨_, 1, rfl, Nat.le_refl _, fun _ => ⟨w.heap.size, 0, rfl, by simp, fun j hj => ?_⟩⟩
  have : j = 0 := by simp at hj; omega
  subst this
  rw [cell_of_row _ _ _ _ _ _ (heap_alloc_new w _)]
  rfl

theorem own_form {w : World} {base n : Nat} {e : TypeId} {v : Value} {xs : List Value} (h : w.ownsRow base e 1 v n xs) (hn : 0 < n) : ∃ g c, v = .slice (some ⟨g, 0, none⟩) n c ∧ base ≤ g ∧ g < w.heap.size := by
  rcases h.2 with ⟨_, h0⟩ | ⟨g, cap, cur, hv, hb, hg, _⟩
  · omega
  · exact ⟨g, cap, hv, hb, (Array.getElem?_eq_some_iff.1 hg).1⟩
end Go.Proofs.Ytknipcnlaaapoaa
