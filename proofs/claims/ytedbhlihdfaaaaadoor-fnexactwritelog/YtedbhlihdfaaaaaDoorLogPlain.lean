/- The bytes of a log, in plain words. -/
import Derived.Test.YtedbhlihdfaaaaaDoorByteRows
import Derived.Test.YtedbhlihdfaaaaaDoorRowEvent
import Derived.Test.YtedbhlihdfaaaaaDoorSpecAll
import Derived.Test.YtedbhlihdfaaaaaDoorFaceKind
namespace Go.Proofs.YtedbhlihdfaaaaaDoor
open Go.RowKit
open Go.Lib (hid)

/-- A number in pieces of seven bits. -/
def sevB : Nat → Nat → List Int
  | 0, n => [(n : Int)]
  | f + 1, n => if n < 128 then [(n : Int)] else ((n : Int) % 128 + 128) :: sevB f (n / 128)

theorem sevB_len : ∀ f n, (sevB f n).length ≤ f + 1
  | 0, _ => Nat.le_refl _
  | f + 1, n => by
    unfold sevB
    split
    · simp
    · simp only [List.length_cons]
      have := sevB_len f (n / 128)
      omega

theorem sevB_last (f n : Nat) (h : n < 128) : sevB f n = [(n : Int)] := by
  cases f with
  | zero => rfl
  | succ f => unfold sevB; rw [if_pos h]

theorem sevB_more (f n : Nat) (h : ¬ n < 128) : sevB (f + 1) n = ((n : Int) % 128 + 128) :: sevB f (n / 128) := by
  rw [sevB, if_neg h]

def evB (e : EventD) : List Int := IntKind.u8.wrap e.x0 :: (sevB 3 e.x1.size ++ strI e.x1)

/-- The log's bytes up to a place. -/
def logP (es : List EventD) (i : Nat) : List Int := [81, 76] ++ sevB 3 es.length ++ ((es.take i).map evB).flatten

def rightE (e : EventD) : Bool := decide ((0 ≤ e.x0 ∧ e.x0 ≤ 7) ∧ (nodeOf e.x1).1 ≠ 0)

def evsB (es : List EventD) : Bool := decide (es.length ≤ 60) && es.all rightE

def logO (es : List EventD) : List Int := if evsB es = true ∧ (logP es es.length).length ≤ 60000 then logP es es.length else []

theorem logP_zero (es : List EventD) : logP es 0 = [81, 76] ++ sevB 3 es.length := by simp [logP]

theorem logP_next (es : List EventD) (i : Nat) (h : i < es.length) : logP es (i + 1) = logP es i ++ evB es[i] := by
  unfold logP
  rw [List.take_succ_eq_append_getElem h, List.map_append, List.flatten_append]
  simp

theorem logP_mono (es : List EventD) (i : Nat) : ∀ d, i + d ≤ es.length → (logP es i).length ≤ (logP es (i + d)).length
  | 0, _ => Nat.le_refl _
  | d + 1, h => by
    have h1 := logP_mono es i d (by omega)
    rw [show i + (d + 1) = (i + d) + 1 by omega, logP_next es (i + d) (by omega), List.length_append]
    omega

theorem logO_long {es : List EventD} {i : Nat} (hi : i ≤ es.length) (h : ¬ (logP es i).length ≤ 60000) : logO es = [] := by
  unfold logO
  rw [if_neg]
  rintro ⟨_, h2⟩
  have := logP_mono es i (es.length - i) (by omega)
  rw [show i + (es.length - i) = es.length by omega] at this
  omega

theorem logO_bad {es : List EventD} (h : evsB es = false) : logO es = [] := by
  unfold logO
  rw [if_neg]
  rintro ⟨h2, _⟩
  rw [h] at h2
  cases h2

theorem logO_good {es : List EventD} (h : evsB es = true) (h2 : (logP es es.length).length ≤ 60000) : logO es = logP es es.length := if_pos ⟨h, h2⟩

theorem evs_bad {es : List EventD} {i : Nat} (hi : i < es.length) (h : rightE es[i] = false) : evsB es = false := by
  unfold evsB
  cases hr : es.all rightE with
  | false => simp
  | true =>
    have := List.all_eq_true.1 hr es[i] (List.getElem_mem hi)
    rw [h] at this
    cases this

theorem evs_all {es : List EventD} (h60 : es.length ≤ 60) (h : ∀ j (hj : j < es.length), rightE es[j] = true) : evsB es = true := by
  unfold evsB
  rw [decide_eq_true h60, Bool.true_and, List.all_eq_true]
  intro e he
  obtain ⟨j, hj, rfl⟩ := List.mem_iff_getElem.1 he
  exact h j hj

theorem logP_len (es : List EventD) (hs : ∀ e ∈ es, e.x1.size ≤ 1048576) : ∀ i, i ≤ es.length → (logP es i).length ≤ 6 + 1048581 * i
  | 0, _ => by
    rw [logP_zero, List.length_append]
    have := sevB_len 3 es.length
    simp
    omega
  | i + 1, h => by
    rw [logP_next es i (by omega), List.length_append]
    have h1 := logP_len es hs i (by omega)
    have h2 := sevB_len 3 es[i].x1.size
    have h3 := hs es[i] (List.getElem_mem (by omega))
    have h4 : (evB es[i]).length = 1 + ((sevB 3 es[i].x1.size).length + es[i].x1.size) := by
      unfold evB
      rw [List.length_cons, List.length_append, strI_len]
      omega
    omega

theorem logO_len (es : List EventD) : (logO es).length ≤ 60000 := by
  unfold logO
  split
  · rename_i h; exact h.2
  · exact Nat.zero_le _

/-- What WriteLog answers. -/
def LogPost (es : List EventD) (w : World) (e : Ending) (w' : World) : Prop :=
  ∃ v, e = .returned v ∧ Below w.heap.size w w' ∧ w'.ownsRow w.heap.size 5 1 v (logO es).length (bys (logO es))

theorem log_none {es : List EventD} {w w' : World} {e : Ending} {v : Value} (hz : logO es = []) (he : e = .returned v) (hb : Below w.heap.size w w') (ho : w'.ownsRow w.heap.size 5 1 v 0 []) : LogPost es w e w' :=
  ⟨v, he, hb, by rw [hz]; exact ho⟩

theorem log_some {es : List EventD} {w w' : World} {e : Ending} {v : Value} (hz : logO es = logP es es.length) (he : e = .returned v) (hb : Below w.heap.size w w') (ho : w'.ownsRow w.heap.size 5 1 v (logP es es.length).length (bys (logP es es.length))) : LogPost es w e w' :=
  ⟨v, he, hb, by rw [hz]; exact ho⟩

theorem nil_own (lo : Nat) (w : World) : w.ownsRow lo 5 1 (.slice none 0 0) 0 [] := ⟨rfl, .inl ⟨rfl, rfl⟩⟩

/-- What turns where a row of bytes is made longer: its own block at most; and where the row lies then. -/
structure Longer (w w' : World) (a v : Value) : Prop where
  touch : Touch w w' [a]
  place : v.ownBlock = a.ownBlock ∨ ∃ k, v.ownBlock = some k ∧ w.heap.size ≤ k

theorem Longer.refl (w : World) (a : Value) : Longer w w a a := ⟨(Touch.of_below (Below.refl _ _) [a]), .inl rfl⟩

theorem Longer.step {w u w' : World} {a b v : Value} (h : Longer w u a b) (hg : u.grownBy w' b.ownBlock) (hv : v.ownBlock = b.ownBlock ∨ v.ownBlock = some u.heap.size) : Longer w w' a v := by
  have hs := h.touch.size
  refine ⟨⟨hg.os.trans h.touch.os, hg.tape.trans h.touch.tape, hg.output.trans h.touch.output, Nat.le_trans hs hg.size, fun k hk hn => ?_⟩, ?_⟩
  · refine (hg.block k (Nat.lt_of_lt_of_le hk hs) (fun e => ?_)).trans (h.touch.block k hk hn)
    rcases h.place with hp | ⟨q, hq, hle⟩
    · exact hn a (List.mem_singleton.2 rfl) (hp.symm.trans e.symm)
    · have e2 := Option.some.inj (e.trans hq)
      omega
  · rcases hv with hv | hv
    · rcases h.place with hp | ⟨q, hq, hle⟩
      · exact .inl (hv.trans hp)
      · exact .inr ⟨q, hv.trans hq, hle⟩
    · exact .inr ⟨_, hv, hs⟩

theorem Longer.grow {w u w' : World} {a b : Value} (h : Longer w u a b) (hb : Below u.heap.size u w') : Longer w w' a b :=
  ⟨⟨hb.os.trans h.touch.os, hb.tape.trans h.touch.tape, hb.output.trans h.touch.output, Nat.le_trans h.touch.size hb.size, fun k hk hn => (hb.block k (Nat.lt_of_lt_of_le hk h.touch.size)).trans (h.touch.block k hk hn)⟩, h.place⟩

theorem Longer.below {w w' : World} {a v : Value} {B lo size n : Nat} {e : TypeId} {xs : List Value} (h : Longer w w' a v) (ho : w.ownsRow lo e size a n xs) (hB : B ≤ lo) (hw : B ≤ w.heap.size) : Below B w w' :=
  ⟨h.touch.os, h.touch.tape, h.touch.output, h.touch.size, fun k hk => h.touch.block k (Nat.lt_of_lt_of_le hk hw) (fun y hy e => by rw [List.mem_singleton.1 hy] at e; have := (ho.lt k e).1; omega)⟩

theorem Longer.under {w w' : World} {a v : Value} {B : Nat} (h : Longer w w' a v) (hk : ∀ k, a.ownBlock = some k → B ≤ k) (hw : B ≤ w.heap.size) : Below B w w' :=
  ⟨h.touch.os, h.touch.tape, h.touch.output, h.touch.size, fun k hl => h.touch.block k (Nat.lt_of_lt_of_le hl hw) (fun y hy e => by rw [List.mem_singleton.1 hy] at e; have := hk k e; omega)⟩

theorem Longer.box {w w' : World} {a v : Value} {b : Nat} {o : Obj} (h : Longer w w' a v) (hb : w.heap[b]? = some o) (hn : a.ownBlock ≠ some b) : w'.heap[b]? = some o :=
  h.touch.box hb (touch_one hn)
end Go.Proofs.YtedbhlihdfaaaaaDoor
