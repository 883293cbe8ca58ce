/- The parts of a term by the specification, and plain facts on them; a text has at most 1048576 bytes. -/
import Derived.Test.YtjaaplcgphlccaaGreatDoorSpecAll
import Derived.Test.YtjaaplcgphlccaaGreatDoorImplFace
import Derived.Test.YtjaaplcgphlccaaGreatDoorMarks
import Derived.Deep.RegionWith
namespace Go.Proofs.YtjaaplcgphlccaaGreatDoor
open Go.RowKit
open Go.Lib (hid)

theorem nodeOf_short (s : ByteArray) (h4 : s.size ≤ 4000) : nodeOf s = kindS 40 s.data.toList := by unfold nodeOf; rw [if_pos h4]
theorem nodeOf_long (s : ByteArray) (h4 : ¬ s.size ≤ 4000) : nodeOf s = (0, []) := by unfold nodeOf; rw [if_neg h4]

theorem parts_spec (s : ByteArray) (w : World) (hs : s.size ≤ 1048576) :
    Calls Tryz.prog 24 #[.string s] w fun e w' => ∃ sv, e = .returned sv ∧ Below w.heap.size w w' ∧ w'.ownsRow w.heap.size 9 1 sv (nodeOf s).2.length (strs (nodeOf s).2) := by
  by_cases h4 : s.size ≤ 4000
  · have i4 : ¬ (s.size : Int) > 4000 := by omega
    rw [nodeOf_short s h4]
    go_enter Tryz.func24, Tryz.ntmps24
    go_wp2_with (go_at_call 50; refine (kind_all 40 (by omega) s _ _ rfl hs).mono ?_; rintro e w1 ⟨sv, rfl, hb, ho⟩; refine Hid.out ?_)
    refine hid ?_
    have HO := hid ho
    clear ho
    go_wp2
    go_ret
    exact ⟨sv, rfl, hb, HO.out⟩
  · have i4 : (s.size : Int) > 4000 := by omega
    rw [nodeOf_long s h4]
    go_enter Tryz.func24, Tryz.ntmps24
    go_wp2
    go_ret
    exact ⟨_, rfl, (Below.refl _ _).alloc (Nat.le_refl _) _, none_own w⟩

theorem brk_none {f : List UInt8 → Nat} {l : List UInt8} (h : (brk f l).1 = 0) : (brk f l).2 = [] := by
  unfold brk at h ⊢
  split
  · rename_i e
    rw [e] at h
    simp only [] at h
    split
    · rename_i hc
      rw [if_pos hc] at h
      exact absurd h hc.1
    · rfl
  · rfl

theorem kindS_none {d : Nat} {l : List UInt8} (h : (kindS d l).1 = 0) : (kindS d l).2 = [] := by
  cases d with
  | zero => unfold kindS; split <;> (try split) <;> rfl
  | succ d =>
    unfold kindS at h ⊢
    split
    · rfl
    · rename_i h1
      rw [if_neg h1] at h
      split
      · rfl
      · rename_i h2
        rw [if_neg h2] at h
        exact brk_none h

theorem nodeOf_none (s : ByteArray) (h : (nodeOf s).1 = 0) : (nodeOf s).2 = [] := by
  unfold nodeOf at h ⊢
  split
  · rename_i h4
    rw [if_pos h4] at h
    exact kindS_none h
  · rfl

/-- Where the loop over a node's parts stands: behind world w1 the node's rows stay, and all new is behind the base. -/
structure Took (base : Nat) (ps : List (List UInt8)) (w1 : World) (i : Nat) (sv : Value) (wr : World) : Prop where
  below : Below w1.heap.size w1 wr
  own : wr.ownsRow w1.heap.size 9 1 sv i (strs (ps.take i))

theorem own_base {w : World} {base base' size n : Nat} {e : TypeId} {v : Value} {xs : List Value} (h : w.ownsRow base e size v n xs) (hb : base' ≤ base) : w.ownsRow base' e size v n xs := by
  refine ⟨h.1, ?_⟩
  rcases h.2 with hn | ⟨g, cap, cur, e1, hbg, rest⟩
  · exact Or.inl hn
  · exact Or.inr ⟨g, cap, cur, e1, Nat.le_trans hb hbg, rest⟩

theorem strs_take_succ (ps : List (List UInt8)) (i : Nat) (h : i < ps.length) : strs (ps.take (i + 1)) = strs (ps.take i) ++ [.string ⟨ps[i].toArray⟩] := by
  unfold strs
  rw [List.take_succ_eq_append_getElem h, List.map_append]
  rfl

theorem kindS_parts_few (d : Nat) (l : List UInt8) : (kindS d l).2.length ≤ 8 := by
  cases d with
  | zero => unfold kindS; split <;> (try split) <;> simp
  | succ d =>
    unfold kindS
    split
    · simp
    · split
      · simp
      · unfold brk
        split
        · split
          · rename_i h
            have h2 := h.2.1
            simp only [shapeB, Bool.and_eq_true, decide_eq_true_eq] at h2
            have h3 := h2.1.2
            refine Nat.le_trans h3 ?_
            unfold mostOf
            split <;> omega
          · simp
        · simp

end Go.Proofs.YtjaaplcgphlccaaGreatDoor
