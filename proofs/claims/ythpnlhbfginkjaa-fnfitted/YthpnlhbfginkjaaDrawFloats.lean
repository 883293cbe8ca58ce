/- Drawn lists of floats. -/
import Derived.Test.YthpnlhbfginkjaaDrawFloat
import Derived.Test.YthpnlhbfginkjaaFloatKit
import Derived.Deep.DeepCutAuto
namespace Go.Proofs.Ythpnlhbfginkjaa
open Go.RowKit
open Go.Lib (hid)

attribute [local go_sem] run_fadd run_fsub run_fmul run_fquo run_fneg run_store_float

theorem own_step {w w' : World} {b base size n : Nat} {e : TypeId} {v : Value} {xs : List Value} (h : w.ownsRow base e size v n xs) (hb : b < base) (hs : Step b w w') : w'.ownsRow base e size v n xs := by
  refine ⟨h.1, ?_⟩
  rcases h.2 with hn | ⟨g, cap, cur, e1, hbg, hg, rest⟩
  · exact Or.inl hn
  · refine Or.inr ⟨g, cap, cur, e1, hbg, ?_, rest⟩
    rw [hs.block g (Array.getElem?_eq_some_iff.1 hg).1 (by omega)]
    exact hg

theorem Rd.under {w w' : World} {b base : Nat} {q : Option Addr} {n c : Nat} (h : Rd w b q n c) (hb : b < base) (hbl : Below base w w') (hq : ∀ ad, q = some ad → ad.block < base ∨ n = 0) : Rd w' b q n c := by
  obtain ⟨i, hi, h1⟩ := h.place
  refine ⟨(hbl.cell (p := ⟨b, 0, none⟩) hb).trans h.data, ⟨i, hi, (hbl.cell (p := ⟨b, 1, none⟩) hb).trans h1⟩, (hbl.frozen (p := ⟨b, 1, none⟩) hb).trans h.free, Nat.lt_of_lt_of_le h.here hbl.size, h.few, fun j hj => ?_⟩
  obtain ⟨ad, rfl, hne, hl, x, hx0, hx1, hx⟩ := h.bytes j hj
  rcases hq ad rfl with hlt | hz
  · exact ⟨ad, rfl, hne, Nat.lt_of_lt_of_le hl hbl.size, x, hx0, hx1, by rw [hbl.cell (p := ad.add j) (by rw [rd_block]; exact hlt)]; exact hx⟩
  · omega

theorem Rd.old {w : World} {b : Nat} {q : Option Addr} {n c : Nat} (h : Rd w b q n c) : ∀ ad, q = some ad → ad.block < w.heap.size ∨ n = 0 := fun ad e => by
  by_cases hn : n = 0
  · exact Or.inr hn
  · obtain ⟨ad2, e2, _, hl, _⟩ := h.bytes 0 (by omega)
    rw [e] at e2
    have := Option.some.inj e2
    subst this
    exact Or.inl hl

theorem step_grown {b : Nat} {w w1 w2 : World} {row : Option Nat} (h : Step b w w1) (hg : w1.grownBy w2 row) (hr : ∀ k, row = some k → w.heap.size ≤ k) : Step b w w2 :=
  ⟨hg.os.trans h.os, hg.tape.trans h.tape, hg.output.trans h.output, Nat.le_trans h.size hg.size, fun k hk hb => (hg.block k (Nat.lt_of_lt_of_le hk h.size) (fun e => by have := hr k e.symm; omega)).trans (h.block k hk hb)⟩

theorem own_baseF {w : World} {b b' n : Nat} {e : TypeId} {v : Value} {xs : List Value} (h : w.ownsRow b e 1 v n xs) (hb : b' ≤ b) : w.ownsRow b' e 1 v n xs := own_raise h hb

/-- Where the drawing of floats stands. -/
structure FlG (w : World) (b : Nat) (q : Option Addr) (n c : Nat) (v : Value) (l : List Nat) (wr : World) : Prop where
  own : wr.ownsRow w.heap.size 24 1 v l.length (fls l)
  reader : Rd wr b q n c
  step : Step b w wr
  small : ∀ x ∈ l, x < 18446744073709551616

theorem FlG.call {w : World} {b : Nat} {q : Option Addr} {n c : Nat} {v : Value} {l : List Nat} {wr w' : World} (h : FlG w b q n c v l wr) (hb : b < w.heap.size) (hr : Rd w' b q n c) (hs : Step b wr w') : FlG w b q n c v l w' :=
  ⟨own_step h.own hb hs, hr, h.step.trans hs, h.small⟩

theorem FlG.put {w : World} {b : Nat} {q : Option Addr} {n c : Nat} {v v' : Value} {l : List Nat} {y : Nat} {cs : Array Value} {t : TypeId} {wr w' : World} (h : FlG w b q n c v l wr) (hb : b < w.heap.size) (hq : ∀ ad, q = some ad → ad.block < w.heap.size ∨ n = 0) (hy : y < 18446744073709551616)
    (hown : w'.ownsRow w.heap.size 24 1 v' (l.length + 1) (fls l ++ fls [y])) (hg : (wr.alloc (.cells cs t)).grownBy w' v.ownBlock) : FlG w b q n c v' (l ++ [y]) w' := by
  have hlt := fun j hj => (h.own.lt j hj).1
  have hs1 : Step b w (wr.alloc (.cells cs t)) := h.step.alloc _
  refine ⟨by rw [List.length_append, fls_append]; exact hown, ?_, step_grown hs1 hg hlt, ?_⟩
  · have hr := h.reader.below ((Below.refl wr.heap.size wr).alloc (Nat.le_refl _) (.cells cs t))
    have hbl : Below w.heap.size (wr.alloc (.cells cs t)) w' :=
      ⟨hg.os, hg.tape, hg.output, hg.size, fun j hj => hg.block j (Nat.lt_of_lt_of_le hj hs1.size) (fun e => by have := hlt j e.symm; omega)⟩
    exact hr.under hb hbl hq
  · intro e he
    rcases List.mem_append.1 he with h1 | h1
    · exact h.small e h1
    · have := List.mem_singleton.1 h1
      omega

theorem FlG.start {w : World} {b : Nat} {q : Option Addr} {n c : Nat} {w1 : World} (hr : Rd w1 b q n c) (hs : Step b w w1) : FlG w b q n c (.slice (some ⟨w1.heap.size, 0, Option.none⟩) 0 0) [] (w1.alloc (.cells #[] 24)) :=
  ⟨own_baseF (World.ownsRow_made w1 #[] 0 (Nat.le_refl _) (Nat.zero_le _) rfl) hs.size, hr.below ((Below.refl _ _).alloc (Nat.le_refl _) _), hs.alloc _, fun e he => by cases he⟩

/-- What a method answers that draws floats. -/
def DrawnFloats (b : Nat) (q : Option Addr) (n c : Nat) (w : World) (e : Ending) (w' : World) : Prop :=
  ∃ v l, e = .returned v ∧ l.length ≤ 101 ∧ FlG w b q n c v l w'

end Go.Proofs.Ythpnlhbfginkjaa
