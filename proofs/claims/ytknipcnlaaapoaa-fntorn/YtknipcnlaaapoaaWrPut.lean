/- One write more on a slice of writes that the call has made, and the code's put that does it. -/
import Derived.Test.YtknipcnlaaapoaaWrRows
import Derived.Test.YtknipcnlaaapoaaNvTell
import Derived.Test.YtknipcnlaaapoaaAppendWhere
namespace Go.Proofs.Ytknipcnlaaapoaa
open Go.RowKit
open Go.Lib (hid)

theorem writeInfo : (Try.prog.info? 61).map (fun i => (i.zero, i.size, i.bytes)) = some (some (.agg #[.int .i64 0, .int .i64 0]), 2, 16) := by kernel_rfl

theorem wp_append_write {w : World} {ops : Array Oper} {rest : List Oper} {o : Oper} {a : Act} {Q : Exit → Act → World → Prop} (hgd : o.guard = none) (s x : Operand)
    (ho : o.op = .call { callee := .builtin .append, args := #[s, x], argTypes := #[39, 39] }) (base : Nat)
    (v : Value) (n : Nat) (F : List Int) (hs : a.eval s = v) (hown : w.ownsRow base 61 2 v n (ints F))
    (b : Nat) (c : Nat) (y z : Int) (hx : a.eval x = .slice (some ⟨b, 0, none⟩) 1 c) (h0 : w.cell? ⟨b, 0, none⟩ = some (.int .i64 y)) (h1 : w.cell? ⟨b, 1, none⟩ = some (.int .i64 z)) (hn : n ≤ 100000000) (hbase : base ≤ w.heap.size)
    (h : ∀ v' w', w'.ownsRow base 61 2 v' (n + 1) (ints (F ++ [y, z])) → w.grownBy w' v.ownBlock → (v'.ownBlock = v.ownBlock ∨ v'.ownBlock = some w.heap.size) → wpList Try.prog ops Q rest (a.put o.dst v') w') : wpList Try.prog ops Q (o :: rest) a w := by
  obtain ⟨i0, hi0, hz0, hz1, hz2⟩ := info_parts writeInfo
  have hap : ints (F ++ [y, z]) = ints F ++ [.int .i64 y, .int .i64 z] := by simp [ints]
  rw [hap] at h
  refine wp_append_where w hgd s x 39 ho base 61 i0 _ 2 16 Try.underlying39 hi0 hz0 hz1 hz2 rfl (by decide) v n _ hs hown ⟨b, 0, none⟩ c [.int .i64 y, .int .i64 z] hx rfl ?_ ?_ ?_ ?_ hbase h
  · intro j u hj
    match j, hj with
    | 0, hj => simp at hj; subst hj; exact h0
    | 1, hj => simp at hj; subst hj; exact h1
  · intro u hu
    simp at hu
    rcases hu with rfl | rfl <;> rfl
  · unfold maxLen; omega
  · omega

theorem own_slice {w : World} {base size n : Nat} {e : TypeId} {v : Value} {xs : List Value} (h : w.ownsRow base e size v n xs) : ∃ p c, v = .slice p n c := by
  rcases h.2 with ⟨hv, hz⟩ | ⟨g, cap, cur, e1, _⟩
  · exact ⟨none, 0, by rw [hv, hz]⟩
  · exact ⟨_, _, e1⟩

theorem block_put {w : World} {b : Nat} {v : Value} {t : TypeId} (h : w.heap[b]? = some (.cells #[v] t)) (u : Value) : (w.setCell ⟨b, 0, none⟩ u).heap[b]? = some (.cells #[u] t) := by
  rw [heap_setCell_same w b 0 _ _ u h]
  rfl

theorem own_put {w : World} {base size n b : Nat} {e : TypeId} {v u : Value} {xs : List Value} (h : w.ownsRow base e size v n xs) (hb : v.ownBlock ≠ some b) : (w.setCell ⟨b, 0, none⟩ u).ownsRow base e size v n xs := by
  refine ⟨h.1, ?_⟩
  rcases h.2 with hn | ⟨g, cap, cur, rfl, hbg, hgg, rest⟩
  · exact .inl hn
  · refine .inr ⟨g, cap, cur, rfl, hbg, ?_, rest⟩
    rw [Below.heap_setCell _ _ _ g (by show g ≠ b; intro e; subst e; exact hb rfl)]
    exact hgg

theorem heap_alloc2_old' {w : World} {o o' : Obj} {k : Nat} (h : k < w.heap.size) : ((w.alloc o).alloc o').heap[k]? = w.heap[k]? :=
  (heap_alloc_old _ _ (by simp; omega)).trans (heap_alloc_old _ _ h)

set_option maxRecDepth 20000 in
set_option maxHeartbeats 1000000 in
theorem wput_calls (bw n : Nat) (v : Value) (F : List Int) (x y : Int) (base : Nat) (w : World) (hn : n ≤ 1000000) (hbase : base ≤ bw) (ho : w.ownsRow base 61 2 v n (ints F)) (hb : w.heap[bw]? = some (.cells #[v] 39)) (hv : v.ownBlock ≠ some bw) :
    Calls Try.prog 36 #[.agg #[.int .i64 x, .int .i64 y], .pointer (some ⟨bw, 0, none⟩)] w fun e w' => e = .returned (.tuple #[]) ∧ ∃ v', w'.ownsRow base 61 2 v' (n + 1) (ints (F ++ [x, y])) ∧ w'.heap[bw]? = some (.cells #[v'] 39) ∧ (v'.ownBlock = v.ownBlock ∨ ∃ k, v'.ownBlock = some k ∧ w.heap.size ≤ k) ∧ w.heap.size ≤ w'.heap.size ∧
      (w'.os = w.os ∧ w'.tape = w.tape ∧ w'.output = w.output) ∧ ∀ k, k < w.heap.size → k ≠ bw → some k ≠ v.ownBlock → w'.heap[k]? = w.heap[k]? := by
  have hc := (cell_of_row w bw 0 _ _ _ hb).trans (show (#[v] : Array Value)[0]? = some v from rfl)
  have hfz : w.frozen? ⟨bw, 0, none⟩ = false := by simp [World.frozen?, hb]
  have HO := hid ho
  have HBW := hid hb
  have hlt : bw < w.heap.size := World.block_lt_of_cell? w _ hc
  have HBB : Hid (base ≤ w.heap.size + 1 + 1) := hid (by omega)
  clear ho hb
  go_enter Try.func36, Try.ntmps36
  go_wp2_with (at_builtin; go_loud (refine wp_append_write rfl (.tmp 3) (.tmp 5) rfl base v n F (by rfl) ((HO.out.alloc _).alloc _) (w.heap.size + 1) 1 x y (by rfl) (by simp [go_sem]) (by simp [go_sem]) (by omega) (by simp only [World.size_alloc]; exact HBB.out) ?_); intro v' w2 ho2 hg2 hv2; refine Hid.out ?_)
  refine hid ?_
  obtain ⟨p', c', rfl⟩ := own_slice ho2
  have hz2 := hg2.size
  simp only [World.size_alloc] at hz2 hv2
  have hold : ∀ k, k < w.heap.size → some k ≠ v.ownBlock → w2.heap[k]? = w.heap[k]? := fun k hk hne => (hg2.block k (by simp; omega) hne).trans (heap_alloc2_old' hk)
  have HOLD := hid hold
  have HBW2 := hid ((hold bw hlt hv.symm).trans HBW.out)
  have HO2 := hid ho2
  have HE2 : Hid (w2.os = w.os ∧ w2.tape = w.tape ∧ w2.output = w.output) := hid ⟨hg2.os, hg2.tape, hg2.output⟩
  have HV2 := hid hv2
  have hc2 := (cell_of_row w2 bw 0 _ _ _ HBW2.out).trans (show (#[v] : Array Value)[0]? = some v from rfl)
  have hfz2 : w2.frozen? ⟨bw, 0, none⟩ = false := by simp [World.frozen?, HBW2.out]
  clear hold ho2 hg2 hv2 hc hfz
  go_wp2
  go_end0
  have hne : (Value.slice p' (n + 1) c').ownBlock ≠ some bw := by
    rcases HV2.out with h | h
    · rw [h]; exact hv
    · rw [h]; intro e; injection e with e; omega
  refine ⟨rfl, _, own_put HO2.out hne, block_put HBW2.out _, ?_, ?_, HE2.out, fun k hk hkb hne2 => ?_⟩
  · rcases HV2.out with h | h
    · exact Or.inl h
    · exact Or.inr ⟨_, h, by omega⟩
  · simp; omega
  · rw [Below.heap_setCell _ _ _ k hkb]; exact HOLD.out k hk hne2
end Go.Proofs.Ytknipcnlaaapoaa
