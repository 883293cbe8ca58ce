/- Two copies held against each other: where numbers and count are the same it is the checks that tell. -/
import Derived.Test.YtknipcnlaaapoaaNvRead
namespace Go.Proofs.Ytknipcnlaaapoaa
open Go.RowKit
open Go.Lib (hid)

theorem part_int (l : List Int) (i : Nat) (hi : i < l.length) (w : World) : (part 2 (ints l).toArray i).run Try.prog w = .ok (.int .i64 l[i]) w := by
  have h2 := ints_at l i hi
  simp [part, Sem.run_bind, Try.isAgg2, h2]

theorem eq_arr (d : Nat) (l : List Int) (hn : l.length = 20) (w : World) : (Op.equalIn (d + 2) 44 (.agg (ints l).toArray) (.agg (ints l).toArray)).run Try.prog w = .ok true w := by
  have key : ∀ m s, s + m ≤ l.length → (forIn (m := Sem) (List.range' s m) ((none, ()) : Option Bool × Unit) fun i _ => do
      let a ← part 2 (ints l).toArray i
      let b ← part 2 (ints l).toArray i
      let r ← Op.equalIn (d + 1) 2 a b
      if r = false then pure (ForInStep.done (some false, ())) else pure (ForInStep.yield (none, ()))).run Try.prog w = .ok (none, ()) w := by
    intro m
    induction m with
    | zero => intro s _; simp
    | succ m ih =>
      intro s hs
      have hp := part_int l s (by omega) w
      have hq := run_equalIn_int (P := Try.prog) w d 2 .i64 .i64 l[s] l[s] Try.underlying2
      rw [List.range'_succ, List.forIn_cons, Sem.run_bind]
      simp only [Sem.run_bind, hp, hq, Result.andThen_ok, beq_self_eq_true, Bool.true_eq_false, if_false, Sem.run_pure]
      exact ih (s + 1) (by omega)
  have hu := Try.underlying44
  have hk := key 20 0 (by omega)
  rw [Op.equalIn]
  simp only [Sem.run_bind, run_underlying hu, Result.andThen_ok, Try.sizeOf2, Nat.mul_one]
  simp [hk]

theorem nvc_mid (k c : Int) (ns : List Int) (hn : ns.length = 20) : (nvc k ns c).extract 1 21 = (ints ns).toArray := by
  unfold nvc
  apply Array.ext'
  rw [List.extract_toArray]
  simp [ints, hn]

def eqC (x y : Value) : Sem Value := binOp .eql 46 x y
theorem eqC_eq : binOp .eql 46 = eqC := rfl

theorem eqC_run (k k' c : Int) (ns : List Int) (hn : ns.length = 20) (w : World) : (eqC (.agg (nvc k ns c)) (.agg (nvc k' ns c))).run Try.prog w = .ok (.bool (k == k')) w := by
  have q1 : ∀ (a b : Int) (W : World), (Op.equalIn 9999 2 (.int .i64 a) (.int .i64 b)).run Try.prog W = .ok (a == b) W := fun a b W => run_equalIn_int (P := Try.prog) W 9998 2 .i64 .i64 a b Try.underlying2
  have q2 : ∀ W, (Op.equalIn 9999 44 (.agg (ints ns).toArray) (.agg (ints ns).toArray)).run Try.prog W = .ok true W := fun W => eq_arr 9997 ns hn W
  have h0 := fun k => nvc_first k c ns
  have h1 := fun k => nvc_last k c ns hn
  have h2 := fun k => nvc_mid k c ns hn
  unfold eqC
  simp [go_sem, h0, h1, h2, q1, q2]
  cases hk : k == k'
  · simpa using hk
  · simpa using hk

theorem below_step {B : Nat} {a b c : World} (h : Below B a b) (hB : B ≤ a.heap.size) (k : Below b.heap.size b c) : Below B a c := h.trans (k.mono (Nat.le_trans hB h.size))

/-- Is a copy whole? -/
def wholeB (k : Int) (ns : List Int) (c : Int) : Bool := decide (1 ≤ c) && (k == 1 + (c + ns.sum) % 999983)

attribute [local go_sem ↓] buildC_eq storeC_eq loadC_eq eqC_eq

theorem loadC_row (V : Array Value) (hV : V.size = 22) (b : Nat) (W : World) (fr : Nat × Nat) (h : W.heap[b]? = some (.cells V 46 fr)) : (loadC (.pointer (some ⟨b, 0, none⟩))).run Try.prog W = .ok (.agg V) W := by
  unfold loadC
  simp only [Instr.loadAt, Instr.sureAddr, Sem.run_bind, Sem.run_pure, Result.andThen]
  exact run_loadVar_row W b _ _ V fr _ h Try.underlying46 rfl (by rw [hV]; kernel_rfl)

set_option maxRecDepth 20000 in
set_option maxHeartbeats 1000000 in
theorem whole_calls (k c : Int) (ns : List Int) (hn : ns.length = 20) (hb : Numb ns) (hc : 0 ≤ c ∧ c ≤ 1000000000) (w : World) :
    Calls Try.prog 42 #[.agg (nvc k ns c)] w fun e w' => e = .returned (.bool (wholeB k ns c)) ∧ Below w.heap.size w w' := by
  have h21 := nvc_last k c ns hn
  have HN := hid hb
  clear hb
  by_cases h1 : 1 ≤ c
  · have d1 : decide (c ≥ 1) = true := decide_eq_true h1
    have e : wholeB k ns c = (k == 1 + (c + ns.sum) % 999983) := by simp [wholeB, h1]
    rw [e]
    clear e
    have heq := fun k' => eqC_run k k' c ns hn
    have hload : ∀ W : World, Below (w.heap.size + 1) (w.alloc (.cells (nvc k ns c) 46)) W → (loadC (.pointer (some ⟨w.heap.size, 0, none⟩))).run Try.prog W = .ok (.agg (nvc k ns c)) W := fun W hW => loadC_row _ (nvc_size _ _ _ hn) _ W (0, 0) ((hW.block _ (Nat.lt_succ_self _)).trans (heap_alloc_new _ _))
    have hcell : ∀ W : World, Below (w.heap.size + 1) (w.alloc (.cells (nvc k ns c) 46)) W → W.cell? ⟨w.heap.size, 21, none⟩ = some (.int .i64 c) := fun W hW => by
      rw [cell_of_row W _ 21 _ _ _ ((hW.block _ (Nat.lt_succ_self _)).trans (heap_alloc_new _ _))]; exact h21
    go_enter Try.func42, Try.ntmps42
    go_wp2_with fail
    go_region_held3 (fun w' => Below (w.heap.size + 1) (w.alloc (.cells (nvc k ns c) 46)) w') (first | exact Below.drew (Below.refl _ _) | exact below_step (by assumption) (by simp) (by assumption)) ((go_at_call 47; refine (checked_calls k c ns hn HN.out ⟨hc.1, by omega⟩ _).mono ?_; rintro e w5 ⟨rfl, hb5⟩))
    rename_i hS
    go_wp2
    go_ret
    exact ⟨rfl, ((Below.refl _ _).alloc (Nat.le_refl _) _).trans (hS.mono (Nat.le_succ _))⟩
  · have d1 : decide (c ≥ 1) = false := decide_eq_false h1
    have e : wholeB k ns c = false := by simp [wholeB, h1]
    rw [e]
    go_enter Try.func42, Try.ntmps42
    go_wp2
    go_quiet (fail)
    go_wp2
    go_ret
    exact ⟨rfl, drewN_below ((Below.refl _ _).alloc (Nat.le_refl _) _) _⟩
end Go.Proofs.Ytknipcnlaaapoaa
