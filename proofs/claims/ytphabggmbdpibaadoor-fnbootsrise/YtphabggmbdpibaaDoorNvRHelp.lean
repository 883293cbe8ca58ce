/- The helpers of the laws on an Nv that came in: its size, and a copy. -/
import Derived.Test.YtphabggmbdpibaaDoorNvHelp
namespace Go.Proofs.YtphabggmbdpibaaDoor
open Go.RowKit
open Go.Lib (hid)

theorem sz_ints (l : List Int) (hm : l.length ≤ maxLen) (k : Nat) (hk : k ≤ 1048576) (a : Value) (w : World) (ha : ArgInts w a l) :
    Calls Tryd.prog 103 #[a, .int .i64 k] w fun e w' => e = .returned (.int .i64 (if l.length ≤ k then ((k - l.length : Nat) : Int) else -1)) ∧ Below w.heap.size w w' := by
  obtain ⟨p, c, rfl, _⟩ := ha
  unfold maxLen at hm
  by_cases h : l.length ≤ k
  · rw [if_pos h]
    have e1 : IntKind.i64.wrap ((k : Int) - (l.length : Int)) = ((k - l.length : Nat) : Int) := by rw [IntKind.wrap_i64]; omega
    have e2 : ¬ ((k - l.length : Nat) : Int) < 0 := by omega
    generalize ((k - l.length : Nat) : Int) = z at *
    go_enter Tryd.func103, Tryd.ntmps103
    go_wp2
    go_ret
    exact ⟨rfl, Below.refl _ _⟩
  · rw [if_neg h]
    obtain ⟨z, hz⟩ : ∃ z : Int, z = (k : Int) - (l.length : Int) := ⟨_, rfl⟩
    have e1 : IntKind.i64.wrap ((k : Int) - (l.length : Int)) = z := by rw [IntKind.wrap_i64]; omega
    have e2 : z < 0 := by omega
    go_enter Tryd.func103, Tryd.ntmps103
    go_wp2
    go_ret
    exact ⟨rfl, Below.refl _ _⟩

theorem sz_nv (s : Int) (l : List Int) (hm : l.length ≤ maxLen) (k : Nat) (hk : k ≤ 1048576) (a : Value) (w : World) (ha : ArgInts w a l) :
    Calls Tryd.prog 47 #[.agg #[.int .i64 s, a], .int .i64 k] w fun e w' => e = .returned (.int .i64 (if l.length ≤ k then ((k - l.length : Nat) : Int) else -1)) ∧ Below w.heap.size w w' := by
  have HA := hid ha
  have CZ := hid (fun a W (hW : ArgInts W a l) => sz_ints l hm k hk a W hW)
  obtain ⟨p, c, rfl, _⟩ := ha
  have HW : Hid (Below w.heap.size w (w.alloc (.cells #[.int .i64 s, .slice p l.length c] 24))) := hid ((Below.refl _ _).alloc (Nat.le_refl _) _)
  by_cases h : l.length ≤ k
  · rw [if_pos h] at CZ ⊢
    have e2 : ¬ ((k - l.length : Nat) : Int) < 0 := by omega
    generalize ((k - l.length : Nat) : Int) = z at *
    go_enter Tryd.func47, Tryd.ntmps47
    go_wp2_with (go_at_call 103; refine (CZ.out _ _ (HA.out.on HW.out)).mono ?_; rintro e w1 ⟨rfl, hb1⟩)
    go_ret
    exact ⟨rfl, HW.out.trans (hb1.mono HW.out.size)⟩
  · rw [if_neg h] at CZ ⊢
    go_enter Tryd.func47, Tryd.ntmps47
    go_wp2_with (go_at_call 103; refine (CZ.out _ _ (HA.out.on HW.out)).mono ?_; rintro e w1 ⟨rfl, hb1⟩)
    go_ret
    exact ⟨rfl, HW.out.trans (hb1.mono HW.out.size)⟩

/-- A row of one's own stands while the blocks from its base on stand. -/
theorem own_at {w w' : World} {base size n : Nat} {e : TypeId} {v : Value} {xs : List Value} (h : w.ownsRow base e size v n xs) (hk : ∀ k, base ≤ k → w'.heap[k]? = w.heap[k]?) : w'.ownsRow base e size v n xs := by
  refine ⟨h.1, ?_⟩
  rcases h.2 with hn | ⟨g, cap, cur, rfl, hb, hgg, rest⟩
  · exact .inl hn
  · exact .inr ⟨g, cap, cur, rfl, hb, by rw [hk g hb]; exact hgg, rest⟩

theorem var_thaw {W : World} {b : Nat} {x y : Value} {t : TypeId} (h : W.heap[b]? = some (.cells #[x, y] t)) (o : Nat) : W.frozen? ⟨b, o, none⟩ = false := by simp [World.frozen?, h]

set_option maxRecDepth 20000 in
set_option maxHeartbeats 1000000 in
theorem to_nv (s : Int) (l : List Int) (hn : l.length ≤ 1048576) (a : Value) (w : World) (ha : ArgInts w a l) :
    Calls Tryd.prog 53 #[.agg #[.int .i64 s, a]] w fun e w' => ∃ sv, e = .returned (.agg #[.int .i64 s, sv]) ∧ Below w.heap.size w w' ∧ w'.ownsRow w.heap.size 2 1 sv l.length (ints l) := by
  have HA := hid ha
  obtain ⟨p, c, rfl, _⟩ := ha
  have HW : Hid (Below w.heap.size w (((w.alloc (.cells #[.int .i64 s, .slice p l.length c] 24)).alloc (.cells #[.int .i64 0, .slice none 0 0] 29)).alloc (.cells #[.int .i64 s, .slice none 0 0] 29))) := hid ((((Below.refl _ _).alloc (Nat.le_refl _) _).alloc (by simp) _).alloc (by simp; omega) _)
  go_enter Tryd.func53, Tryd.ntmps53
  go_wp2_with (go_at_call 111; refine (to_ints l hn _ _ (HA.out.on HW.out)).mono ?_; rintro e w1 ⟨rfl, hb1, ho1⟩; refine Hid.out ?_)
  refine hid ?_
  have hz0 : (((w.alloc (.cells #[.int .i64 s, .slice p l.length c] 24)).alloc (.cells #[.int .i64 0, .slice none 0 0] 29)).alloc (.cells #[.int .i64 s, .slice none 0 0] 29)).heap.size = w.heap.size + 3 := by simp
  have HX1 : Hid (w1.heap[w.heap.size + 2]? = some (.cells #[.int .i64 s, .slice none 0 0] 29)) := hid ((hb1.block _ (by omega)).trans (by have h := heap_alloc_new ((w.alloc (.cells #[.int .i64 s, .slice p l.length c] 24)).alloc (.cells #[.int .i64 0, .slice none 0 0] 29)) (.cells #[.int .i64 s, .slice none 0 0] 29); simpa using h))
  have HX2 : Hid (w1.heap[w.heap.size + 1]? = some (.cells #[.int .i64 0, .slice none 0 0] 29)) := hid ((hb1.block _ (by omega)).trans ((((Below.refl _ _).alloc (Nat.le_refl _) _).block _ (by simp)).trans (by have h := heap_alloc_new (w.alloc (.cells #[.int .i64 s, .slice p l.length c] 24)) (.cells #[.int .i64 0, .slice none 0 0] 29); simpa using h)))
  have hz1 := hb1.size
  rw [hz0] at hz1
  have HB1 := hid (HW.out.trans (hb1.mono HW.out.size))
  rw [hz0] at ho1
  have HO1 := hid ho1
  obtain ⟨k0, k1⟩ := var_cells HX1.out
  obtain ⟨k2, k3⟩ := var_cells HX2.out
  have f0 := var_thaw HX1.out 0
  have f1 := var_thaw HX1.out 1
  have f2 := var_thaw HX2.out 0
  have f3 := var_thaw HX2.out 1
  clear hb1 ho1
  try simp only [World.size_alloc]
  try simp only [Nat.add_assoc, Nat.reduceAdd]
  clear hz0
  go_wp2
  refine bodyPost_ret (v := .agg #[.int .i64 s, .slice (some ⟨w.heap.size + 3, 0, none⟩) l.length l.length]) (by simp [results, Tryd.results53, go_sem, k2, k3]; try rfl) rfl ?_
  refine ⟨_, rfl, ((HB1.out.setCell (p := ⟨w.heap.size + 2, 1, none⟩) (by simp) _).setCell (p := ⟨w.heap.size + 1, 0, none⟩) (by simp) _).setCell (p := ⟨w.heap.size + 1, 1, none⟩) (by simp) _, ?_⟩
  refine own_raise (own_at HO1.out (fun k hk => ?_)) (by omega)
  rw [Below.heap_setCell _ _ _ k (by show k ≠ w.heap.size + 1; omega), Below.heap_setCell _ _ _ k (by show k ≠ w.heap.size + 1; omega), Below.heap_setCell _ _ _ k (by show k ≠ w.heap.size + 2; omega)]
end Go.Proofs.YtphabggmbdpibaaDoor
