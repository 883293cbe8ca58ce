/- How a node that the reader made lies in memory: its kind, its text and its parts, each a node again, in rows of its own; and that this stays while other blocks are written. -/
import Derived.Test.YtjaaplcgphlccaaGreatDoorImplWord
import Derived.Test.YtjaaplcgphlccaaGreatDoorTermBoth
namespace Go.Proofs.YtjaaplcgphlccaaGreatDoor
open Go.RowKit
open Go.Lib (hid)

def RowOf (w : World) (R : (Nat → Prop) → Value → List UInt8 → Prop) (S : Nat → Prop) (sv : Value) (ps : List (List UInt8)) : Prop :=
  (ps = [] ∧ sv = .slice none 0 0) ∨
  ∃ g cap, sv = .slice (some ⟨g, 0, none⟩) ps.length cap ∧ S g ∧ ∀ i (hi : i < ps.length), ∃ c0 c1 c2, w.cell? ⟨g, i * 3, none⟩ = some c0 ∧ w.cell? ⟨g, i * 3 + 1, none⟩ = some c1 ∧ w.cell? ⟨g, i * 3 + 2, none⟩ = some c2 ∧ R (fun k => S k ∧ k ≠ g) (.agg #[c0, c1, c2]) ps[i]

/-- A node of a text that may have so many brackets more, its rows in the blocks of a zone. -/
def Rep (w : World) : Nat → (Nat → Prop) → Value → List UInt8 → Prop
  | 0, _, v, t => v = .agg #[.int .i64 ((kindS 0 t).1 : Nat), .string ⟨t.toArray⟩, .slice none 0 0]
  | d + 1, S, v, t => ∃ sv, v = .agg #[.int .i64 ((kindS (d + 1) t).1 : Nat), .string ⟨t.toArray⟩, sv] ∧ RowOf w (Rep w d) S sv (kindS (d + 1) t).2

theorem RowOf.mono {w w' : World} {R R' : (Nat → Prop) → Value → List UInt8 → Prop} {S S' : Nat → Prop} {sv : Value} {ps : List (List UInt8)} (h : RowOf w R S sv ps)
    (hS : ∀ k, S k → S' k) (hc : ∀ k, S k → ∀ o, w'.cell? ⟨k, o, none⟩ = w.cell? ⟨k, o, none⟩) (hR : ∀ (g : Nat) v t, R (fun k => S k ∧ k ≠ g) v t → R' (fun k => S' k ∧ k ≠ g) v t) : RowOf w' R' S' sv ps := by
  rcases h with h | ⟨g, cap, e, hg, hall⟩
  · exact Or.inl h
  · refine Or.inr ⟨g, cap, e, hS g hg, fun i hi => ?_⟩
    obtain ⟨c0, c1, c2, h0, h1, h2, hr⟩ := hall i hi
    exact ⟨c0, c1, c2, by rw [hc g hg]; exact h0, by rw [hc g hg]; exact h1, by rw [hc g hg]; exact h2, hR g _ _ hr⟩

theorem Rep.mono {w w' : World} : ∀ {d : Nat} {S S' : Nat → Prop} {v : Value} {t : List UInt8}, Rep w d S v t → (∀ k, S k → S' k) → (∀ k, S k → ∀ o, w'.cell? ⟨k, o, none⟩ = w.cell? ⟨k, o, none⟩) → Rep w' d S' v t
  | 0, _, _, _, _, h, _, _ => h
  | d + 1, S, S', v, t, h, hS, hc => by
    obtain ⟨sv, e, hr⟩ := h
    exact ⟨sv, e, hr.mono hS hc fun g v t h => Rep.mono h (fun k hk => ⟨hS k hk.1, hk.2⟩) (fun k hk => hc k hk.1)⟩

/-- The value of a node shows its kind and its text. -/
theorem Rep.shape {w : World} {d : Nat} {S : Nat → Prop} {v : Value} {t : List UInt8} (h : Rep w d S v t) : ∃ sv, v = .agg #[.int .i64 ((kindS d t).1 : Nat), .string ⟨t.toArray⟩, sv] ∧ ∃ p n c, sv = .slice p n c := by
  cases d with
  | zero => exact ⟨_, h, _, _, _, rfl⟩
  | succ d =>
    obtain ⟨sv, e, hr⟩ := h
    refine ⟨sv, e, ?_⟩
    rcases hr with ⟨_, rfl⟩ | ⟨g, cap, rfl, _⟩
    · exact ⟨_, _, _, rfl⟩
    · exact ⟨_, _, _, rfl⟩

/-- The parts gathered so far: kinds and texts, in a row of the call's own, each part's own rows apart from it. -/
structure Parts (w : World) (B d : Nat) (sv : Value) (acc : List (Nat × List UInt8)) (xs : List Value) : Prop where
  own : w.ownsRow B 67 3 sv acc.length xs
  node : ∀ i (hi : i < acc.length), acc[i].1 = (kindS d acc[i].2).1 ∧ ∃ c2, xs[i * 3]? = some (.int .i64 (acc[i].1 : Nat)) ∧ xs[i * 3 + 1]? = some (.string ⟨acc[i].2.toArray⟩) ∧ xs[i * 3 + 2]? = some c2 ∧
    Rep w d (fun k => B ≤ k ∧ k < w.heap.size ∧ sv.ownBlock ≠ some k) (.agg #[.int .i64 (acc[i].1 : Nat), .string ⟨acc[i].2.toArray⟩, c2]) acc[i].2

theorem Parts.nil (w : World) (B d : Nat) : Parts w B d (.slice none 0 0) [] [] :=
  ⟨World.ownsRow_nil _ _ _ _, fun i hi => absurd hi (by simp)⟩

/-- While a reader goes on, what is gathered stays. -/
theorem Parts.step {w w' : World} {B d b : Nat} {sv : Value} {acc : List (Nat × List UInt8)} {xs : List Value} (h : Parts w B d sv acc xs) (hb : b < B) (hs : Step b w w') : Parts w' B d sv acc xs := by
  have hc : ∀ k, B ≤ k ∧ k < w.heap.size → ∀ o, w'.cell? ⟨k, o, none⟩ = w.cell? ⟨k, o, none⟩ := fun k hk o => hs.cell (p := ⟨k, o, none⟩) hk.2 (by show k ≠ b; omega)
  refine ⟨⟨h.own.1, ?_⟩, fun i hi => ?_⟩
  · rcases h.own.2 with hn | ⟨g, cap, cur, e, hbg, hg, rest⟩
    · exact Or.inl hn
    · refine Or.inr ⟨g, cap, cur, e, hbg, ?_, rest⟩
      rw [hs.block g (Array.getElem?_eq_some_iff.1 hg).1 (by omega)]
      exact hg
  · obtain ⟨hk, c2, h0, h1, h2, hr⟩ := h.node i hi
    exact ⟨hk, c2, h0, h1, h2, hr.mono (fun k hk => ⟨hk.1, Nat.lt_of_lt_of_le hk.2.1 hs.size, hk.2.2⟩) (fun k hk => hc k ⟨hk.1, hk.2.1⟩)⟩

theorem addr_add (g j : Nat) : (⟨g, 0, none⟩ : Addr).add j = ⟨g, j, none⟩ := by
  unfold Addr.add
  split <;> simp_all

/-- The row of parts read as a node's parts. -/
theorem Parts.row {w : World} {B d : Nat} {sv : Value} {acc : List (Nat × List UInt8)} {xs : List Value} (h : Parts w B d sv acc xs) : RowOf w (Rep w d) (fun k => B ≤ k ∧ k < w.heap.size) sv (acc.map (·.2)) := by
  rcases h.own.2 with ⟨hv, hn⟩ | ⟨g, cap, cur, e, hbg, hg, _, _, _, _⟩
  · exact Or.inl ⟨by rw [List.eq_nil_of_length_eq_zero hn]; rfl, hv⟩
  · have hgl : g < w.heap.size := (Array.getElem?_eq_some_iff.1 hg).1
    refine Or.inr ⟨g, cap, by rw [List.length_map]; exact e, ⟨hbg, hgl⟩, fun i hi => ?_⟩
    rw [List.length_map] at hi
    obtain ⟨_, c2, h0, h1, h2, hr⟩ := h.node i hi
    have hcell : ∀ j u, xs[j]? = some u → w.cell? ⟨g, j, none⟩ = some u := by
      intro j u hu
      have := h.own.cells (g := g) (by rw [e]; rfl) j u hu
      rw [addr_add] at this
      exact this
    refine ⟨_, _, c2, hcell _ _ h0, hcell _ _ h1, hcell _ _ h2, ?_⟩
    rw [List.getElem_map]
    refine hr.mono (fun k hk => ⟨⟨hk.1, hk.2.1⟩, ?_⟩) (fun _ _ _ => rfl)
    intro hkg
    exact hk.2.2 (by rw [e, hkg]; rfl)

/-- One part more, behind an append. -/
theorem Parts.more {w w' : World} {B d : Nat} {sv sv' : Value} {acc : List (Nat × List UInt8)} {xs : List Value} {k : Nat} {t : List UInt8} {c2 : Value} {Z : Nat → Prop} (h : Parts w B d sv acc xs)
    (hown : w'.ownsRow B 67 3 sv' (acc.length + 1) (xs ++ [.int .i64 (k : Nat), .string ⟨t.toArray⟩, c2])) (hg : w.grownBy w' sv.ownBlock) (hblk : sv'.ownBlock = sv.ownBlock ∨ sv'.ownBlock = some w.heap.size)
    (hk : k = (kindS d t).1) (hr : Rep w d Z (.agg #[.int .i64 (k : Nat), .string ⟨t.toArray⟩, c2]) t) (hZ : ∀ j, Z j → B ≤ j ∧ j < w.heap.size ∧ sv.ownBlock ≠ some j) : Parts w' B d sv' (acc ++ [(k, t)]) (xs ++ [.int .i64 (k : Nat), .string ⟨t.toArray⟩, c2]) := by
  have hc : ∀ j, (B ≤ j ∧ j < w.heap.size ∧ sv.ownBlock ≠ some j) → ∀ o, w'.cell? ⟨j, o, none⟩ = w.cell? ⟨j, o, none⟩ := fun j hj o => World.cell?_of_block (w := w) (hg.block j hj.2.1 (fun e => hj.2.2 e.symm))
  have hz : ∀ j, (B ≤ j ∧ j < w.heap.size ∧ sv.ownBlock ≠ some j) → (B ≤ j ∧ j < w'.heap.size ∧ sv'.ownBlock ≠ some j) := by
    intro j hj
    refine ⟨hj.1, Nat.lt_of_lt_of_le hj.2.1 hg.size, ?_⟩
    rcases hblk with e | e
    · rw [e]; exact hj.2.2
    · rw [e]; intro e2; have := Option.some.inj e2; omega
  have hxl : xs.length = acc.length * 3 := h.own.1
  refine ⟨by rw [List.length_append]; exact hown, fun i hi => ?_⟩
  rw [List.length_append, List.length_singleton] at hi
  by_cases hlt : i < acc.length
  · obtain ⟨hk', c, h0, h1, h2, hr'⟩ := h.node i hlt
    rw [List.getElem_append_left hlt]
    refine ⟨hk', c, ?_, ?_, ?_, hr'.mono hz hc⟩
    · rw [List.getElem?_append_left (by omega)]; exact h0
    · rw [List.getElem?_append_left (by omega)]; exact h1
    · rw [List.getElem?_append_left (by omega)]; exact h2
  · have : i = acc.length := by omega
    subst this
    rw [List.getElem_append_right (Nat.le_refl _)]
    simp only [Nat.sub_self, List.getElem_cons_zero]
    refine ⟨hk, c2, ?_, ?_, ?_, hr.mono (fun j hj => hz j (hZ j hj)) (fun j hj => hc j (hZ j hj))⟩
    · rw [List.getElem?_append_right (by omega), show acc.length * 3 - xs.length = 0 by omega]; rfl
    · rw [List.getElem?_append_right (by omega), show acc.length * 3 + 1 - xs.length = 1 by omega]; rfl
    · rw [List.getElem?_append_right (by omega), show acc.length * 3 + 2 - xs.length = 2 by omega]; rfl
end Go.Proofs.YtjaaplcgphlccaaGreatDoor
