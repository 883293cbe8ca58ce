/- A copy made of numbers and a count. -/
import Derived.Test.YtknipcnlaaapoaaNvStand
namespace Go.Proofs.Ytknipcnlaaapoaa
open Go.RowKit
open Go.Lib (hid)

attribute [local go_sem ↓] buildC_eq storeC_eq loadC_eq

theorem built_count (c : Int) : Try.prog.built 46 #[(2, Value.int .i64 c)].toList = some (nvc 0 (noughts 20) c) := by kernel_rfl

theorem buildC_count (c : Int) (W : World) : (buildC #[(2, .int .i64 c)]).run Try.prog W = .ok (.agg (nvc 0 (noughts 20) c)) W := run_build W _ _ _ (built_count c)

theorem storeC_over (V : Array Value) (hV : V.size = 22) (h1 : V.all (·.oneCell') = true) (b : Nat) (W : World) (Z : Array Value) (hz : Z.size = 22) (h : W.heap[b]? = some (.cells Z 46 (0, 0))) : (storeC (.pointer (some ⟨b, 0, none⟩)) (.agg V)).run Try.prog W = .ok () (W.setRow b V) := by
  unfold storeC
  simp only [Instr.storeAt, Instr.sureAddr, Sem.run_bind, Sem.run_pure, Result.andThen_ok]
  exact run_storeVar_row W b _ _ Z V h (by rw [hV]; kernel_rfl) (by rw [hV, hz]) h1

theorem storeC_new1 (W : World) (O : Obj) (c' V : Array Value) (h' : c'.size = 22) (hV : V.size = 22) (h1 : V.all (·.oneCell') = true) : (storeC (.pointer (some ⟨W.heap.size + 1, 0, none⟩)) (.agg V)).run Try.prog ((W.alloc O).alloc (.cells c' 46)) = .ok () ((W.alloc O).alloc (.cells V 46)) := by
  have h := storeC_new (W.alloc O) c' V h' hV h1
  have e : (W.alloc O).heap.size = W.heap.size + 1 := by simp
  rw [e] at h
  exact h

/-- The numbers of a copy, twenty of them. -/
def pad20 (l : List Int) : List Int := l ++ noughts (20 - l.length)

theorem pad20_len (l : List Int) (h : l.length ≤ 20) : (pad20 l).length = 20 := by unfold pad20; rw [List.length_append, noughts_len]; omega

theorem noughts_numb (n : Nat) : Numb (noughts n) := fun x hx => by
  have := List.eq_of_mem_replicate hx
  omega

theorem pad20_numb {l : List Int} (h : Numb l) : Numb (pad20 l) := fun x hx => by
  rcases List.mem_append.1 hx with hx | hx
  · exact h x hx
  · exact noughts_numb _ x hx

theorem noughts_sum (n : Nat) : (noughts n).sum = 0 := by
  unfold noughts
  induction n with
  | zero => rfl
  | succ n ih => rw [List.replicate_succ, List.sum_cons, ih]; rfl

theorem pad20_sum (l : List Int) : (pad20 l).sum = l.sum := by unfold pad20; rw [List.sum_append, noughts_sum]; omega

set_option maxRecDepth 20000 in
set_option maxHeartbeats 1000000 in
theorem copyWith_calls (l : List Int) (h20 : l.length ≤ 20) (hn : Numb l) (c : Int) (hc : 0 ≤ c ∧ c ≤ 1000000001) (a : Value) (w : World) (ha : RowIn w a l) :
    Calls Try.prog 34 #[a, .int .i64 c] w fun e w' => e = .returned (.agg (nvc (1 + (c + l.sum) % 999983) (pad20 l) c)) ∧ Below w.heap.size w w' := by
  obtain ⟨p, cap, rfl, hcap, hp⟩ := ha
  have HP := hid hp
  have HCK := hid (fun W => checked_calls 0 c (pad20 l) (pad20_len l h20) (pad20_numb hn) hc W)
  rw [pad20_sum] at HCK
  have HSP := hid (splice_nvc 0 c l (l.length + 1) (by omega) (by omega) (by omega))
  have HFIT : Hid (1 + (ints l).length ≤ (Value.int .i64 0 :: (ints (noughts 20) ++ [Value.int .i64 c])).length) := hid (by simp [ints_len, noughts_len]; omega)
  have HMIN : Hid ((ints l).length = Nat.min l.length 20) := hid (by rw [ints_len]; exact (Nat.min_eq_left h20).symm)
  have hbuild := buildC_count c
  have hst := fun W O c' h' => storeC_new1 W O c' (nvc 0 (noughts 20) c) h' (nvc_size _ _ _ (noughts_len 20)) (nvc_one _ _ _)
  have s1 := nvc_size 0 c (pad20 l) (pad20_len l h20)
  have s2 := nvc_size (1 + (c + l.sum) % 999983) c (pad20 l) (pad20_len l h20)
  have HSRC : Hid (∀ W : World, Below w.heap.size w W → 0 < (ints l).length → ∃ ad, p = some ad ∧ ∀ j v, (ints l)[j]? = some v → W.cell? (ad.add j) = some v) := hid fun W hW hpos => by
    obtain ⟨g, o, rfl, hg, hcell⟩ := HP.out (fun h => by rw [h] at hpos; cases hpos)
    refine ⟨_, rfl, fun j v hv => ?_⟩
    have hj : j < l.length := by rw [← ints_len]; exact (List.getElem?_eq_some_iff.1 hv).1
    rw [Addr.add_mid, hW.cell (p := ⟨g, o + j, none⟩) hg, hcell j hj]
    rw [ints_at l j hj] at hv
    exact hv
  have hpad : l ++ noughts (20 - l.length) = pad20 l := rfl
  rw [hpad] at HSP
  clear hpad hp hn
  go_enter Try.func34, Try.ntmps34
  go_wp2_with (first | (refine wpList_copy_splice rfl (.tmp 9) (.tmp 10) 24 24 (by rfl) 2 Try.underlying24 (by kernel_rfl) (some ⟨w.heap.size + 1, 1, none⟩) p 20 20 l.length cap (by rfl) (by rfl) (w.heap.size + 1) 1 (Value.int .i64 0 :: (ints (noughts 20) ++ [Value.int .i64 c])) 46 (heap_alloc2_new w _ _) (ints l) HMIN.out (fun h0 => ⟨rfl, HSRC.out _ (((Below.refl _ _).alloc (Nat.le_refl _) _).alloc (by simp) _) h0⟩) HFIT.out (ints_one l) (w.heap.size + 1) _ (Below.refl _ _) (Nat.le_refl _) ?_; intro w4 hg4 hb4; have hl4 := loadC_row (nvc 0 (pad20 l) c) s1 (w.heap.size + 1) w4 (0, 0) (by rw [← HSP.out]; exact hg4.out); have hw4 := (hb4.block w.heap.size (Nat.lt_succ_self _)).trans (heap_alloc2_old w _ _); have hz4 := hb4.size; simp only [World.size_alloc] at hz4; have HW4 := hid hw4; clear hw4) | (go_at_call 47; refine (HCK.out _).mono ?_; rintro e w5 ⟨rfl, hb5⟩; have hst5 := storeC_over _ s2 (nvc_one _ _ _) w.heap.size w5 _ rfl ((hb5.block w.heap.size (by omega)).trans HW4.out)))
  have HG := hid ((hb5.block w.heap.size (by omega)).trans HW4.out)
  refine bodyPost_ret (v := .agg (nvc (1 + (c + l.sum) % 999983) (pad20 l) c)) (results_cell_row (p := 4) Try.results34 _ _ w.heap.size 46 _ (0, 0) _ rfl (setRow_heap _ _ _ _ _ _ HG.out) Try.underlying46 rfl (by rw [s2]; kernel_rfl)) rfl ⟨rfl, ?_⟩
  refine below_setRow ?_ (Nat.le_refl _) _
  exact ((((Below.refl _ _).alloc (Nat.le_refl _) _).alloc (by simp) _).trans (hb4.mono (Nat.le_succ _))).trans (hb5.mono (by omega))
end Go.Proofs.Ytknipcnlaaapoaa
