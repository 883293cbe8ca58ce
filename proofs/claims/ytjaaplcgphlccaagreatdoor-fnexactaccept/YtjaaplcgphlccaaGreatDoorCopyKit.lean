/- A whole slice that came in, appended to one that the call has made, taken as a step of a region that draws its order; what stands in a region. Plain; conditions as in the library's laws. -/
import Derived.Test.YtjaaplcgphlccaaGreatDoorPackMk
import Derived.Test.YtjaaplcgphlccaaGreatDoorPackKt
import Derived.Test.YtjaaplcgphlccaaGreatDoorFlatRow
import Derived.Laws.AppendOwnNone
import Derived.Deep.RegionHeld3
namespace Go.Proofs.YtjaaplcgphlccaaGreatDoor
open Go.RowKit
open Go.Lib (hid)

theorem run_append_none {w : World} (base : Nat) (t ty e : TypeId) (i : TypeInfo) (size c : Nat) (ht : Tryz.prog.underlying t = some (.slice e)) (hi : Tryz.prog.info? e = some i)
    (v : Value) (n : Nat) (xs : List Value) (hown : w.ownsRow base e size v n xs) : (Builtin.append_ #[t, t] ty #[v, .slice none 0 c]).run Tryz.prog w = .ok v w := by
  rcases hown.2 with ⟨rfl, rfl⟩ | ⟨g, cap, cur, rfl, _, _, hnc, _⟩
  · simp [Builtin.append_, run_underlying ht, sizeOf, typeInfo, hi, Builtin.lenOf, Builtin.firstCells]
  · simp [Builtin.append_, run_underlying ht, sizeOf, typeInfo, hi, Builtin.lenOf, Builtin.firstCells, hnc, storeCells]

/-- One step: a slice of texts more, nil or not. -/
theorem step_append_any {w : World} {ops : Array Oper} {o : Oper} {a : Act} {K : Act → World → Prop} {Q : Exit → Act → World → Prop} {E : Prop} (hgd : o.guard = none) (s x : Operand)
    (ho : o.op = .call { callee := .builtin .append, args := #[s, x], argTypes := #[22, 22] }) (base : Nat)
    (v : Value) (n : Nat) (xs : List Value) (hs : a.eval s = v) (hown : w.ownsRow base 9 1 v n xs)
    (X : Value) (ys : List (List UInt8)) (hx : a.eval x = X) (hk : TextsAt w X ys) (hn : n + ys.length ≤ 1000000000) (hbase : base ≤ w.heap.size)
    (h : ∀ v' w', w'.ownsRow base 9 1 v' (n + ys.length) (xs ++ strs ys) → w.grownBy w' v.ownBlock → (v'.ownBlock = v.ownBlock ∨ v'.ownBlock = some w.heap.size) → K (a.put o.dst v') w') :
    if Region.wanted o (yielded ops a.tmps) = true then Oper.wp Tryz.prog o a w K Q else E := by
  rw [if_pos (by simp [Region.wanted, hgd])]
  obtain ⟨i0, hi0, hz0, hz1, hz2⟩ := info_parts strInfo
  obtain ⟨p, c, rfl, hp⟩ := hk
  by_cases hy : ys = []
  · subst hy
    cases p with
    | none =>
      have hr := run_append_none (w := w) base 22 o.type 9 i0 1 c Tryz.underlying22 hi0 v n xs hown
      unfold Oper.wp execOp
      simp only [ho, resolve, invoke, builtin, Sem.run_bind, Sem.run_pure, Result.andThen_ok, List.map_toArray, List.map_cons, List.map_nil, hs, hx, List.length_nil, hr]
      exact h v w (by simpa [strs] using hown) (grown_refl _ _) (Or.inl rfl)
    | some ad =>
      obtain ⟨v', w', hr, h2, h3, h4⟩ := append_where_m (P := Tryz.prog) w base 22 o.type 9 i0 _ 1 16 Tryz.underlying22 hi0 hz0 hz1 hz2 rfl (by decide) v n xs hown ad 0 c [] rfl (fun j u hj => by simp at hj) (fun u hu => by cases hu) (by unfold maxLen; simp at hn; omega) (by simp at hn; omega) hbase
      unfold Oper.wp execOp
      simp only [ho, resolve, invoke, builtin, Sem.run_bind, Sem.run_pure, Result.andThen_ok, List.map_toArray, List.map_cons, List.map_nil, hs, hx, List.length_nil, hr]
      exact h v' w' (by simpa [strs] using h2) h3 h4
  · obtain ⟨g, rfl, hk⟩ := hp hy
    obtain ⟨v', w', hr, h2, h3, h4⟩ := append_where_m (P := Tryz.prog) w base 22 o.type 9 i0 _ 1 16 Tryz.underlying22 hi0 hz0 hz1 hz2 rfl (by decide) v n xs hown ⟨g, 0, none⟩ ys.length c (strs ys) (by simp [strs]) (fun j u hj => by
      have hjl : j < ys.length := by have := (List.getElem?_eq_some_iff.1 hj).1; rwa [strs_len] at this
      rw [addr_at, hk.2 j hjl, ← hj]
      simp [strs, List.getElem?_map, List.getElem?_eq_getElem hjl]) (fun u hu => by
      simp only [strs, List.mem_map] at hu
      obtain ⟨y, _, rfl⟩ := hu
      rfl) (by unfold maxLen; omega) (by omega) hbase
    unfold Oper.wp execOp
    simp only [ho, resolve, invoke, builtin, Sem.run_bind, Sem.run_pure, Result.andThen_ok, List.map_toArray, List.map_cons, List.map_nil, hs, hx, hr]
    exact h v' w' h2 h3 h4

/-- The operations and what is wanted behind them, under names. -/
theorem held_name {P : Program} {md : Region.Mode} {ops : Array Oper} {Q : Exit → Act → World → Prop} {S : World → Prop} {fuel : Nat} {listed : Array Bool} {a : Act} {w : World}
    (h : ∀ (ops' : Array Oper) (Q' : Exit → Act → World → Prop), ops' = ops → Hid (Q' = Q) → wpAnyH P md ops' Q' S fuel listed a w) : wpAnyH P md ops Q S fuel listed a w := h _ _ rfl (hid rfl)

theorem copy_made (w : World) (e : TypeId) (size lo : Nat) (hlo : lo ≤ w.heap.size) : (w.alloc (.cells #[] e)).ownsRow lo e size (.slice (some ⟨w.heap.size, 0, none⟩) 0 0) 0 [] :=
  World.ownsRow_made w #[] 0 hlo (Nat.zero_le _) (by simp)

/-- What a new block is apart from. -/
theorem apart_new {w : World} {lo size n : Nat} {e : TypeId} {v : Value} {xs : List Value} (h : w.ownsRow lo e size v n xs) : ApartV v (.slice (some ⟨w.heap.size, 0, none⟩) 0 0) := fun j k hj hk => by
  have h1 := (h.lt j hj).2
  have h2 : w.heap.size = k := Option.some.inj hk
  omega

/-- Behind an append a row is apart from those that the row before it was apart from. -/
theorem apart_grown {w : World} {lo size n : Nat} {e : TypeId} {v v' u : Value} {xs : List Value} (h : w.ownsRow lo e size u n xs) (hv : v'.ownBlock = v.ownBlock ∨ v'.ownBlock = some w.heap.size) (ha : ApartV u v) : ApartV u v' := fun j k hj hk => by
  rcases hv with hv | hv
  · exact ha j k hj (hv ▸ hk)
  · have h1 := (h.lt j hj).2
    have h2 : w.heap.size = k := Option.some.inj (hv.symm.trans hk)
    omega

theorem kept_grown {w w' : World} {lo size n : Nat} {e : TypeId} {v u : Value} {xs : List Value} (h : w.ownsRow lo e size u n xs) (hg : w.grownBy w' v.ownBlock) (ha : ApartV u v) : w'.ownsRow lo e size u n xs := by
  refine h.kept hg ?_
  cases hu : u.ownBlock with
  | none => exact Or.inl rfl
  | some j => exact Or.inr (fun e => ha j j hu e.symm rfl)

theorem kept_made {w : World} {lo size n : Nat} {e : TypeId} {u : Value} {xs : List Value} (h : w.ownsRow lo e size u n xs) (o : Obj) : (w.alloc o).ownsRow lo e size u n xs :=
  own_below h ((Below.refl _ _).alloc (Nat.le_refl _) o)

theorem below_grown {B : Nat} {a w w' : World} {lo size n : Nat} {e : TypeId} {v : Value} {xs : List Value} (h : Below B a w) (ho : w.ownsRow lo e size v n xs) (hg : w.grownBy w' v.ownBlock) (hB : B ≤ lo) (hw : B ≤ w.heap.size) : Below B a w' :=
  h.grown hg hw (fun k hk => Nat.le_trans hB (ho.lt k hk).1)
end Go.Proofs.YtjaaplcgphlccaaGreatDoor
