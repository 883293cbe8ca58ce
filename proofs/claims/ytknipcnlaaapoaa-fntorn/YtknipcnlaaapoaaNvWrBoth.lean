/- NvWrites, the program's and the specification's, by one post. -/
import Derived.Test.YtknipcnlaaapoaaNvSpecWr2
namespace Go.Proofs.Ytknipcnlaaapoaa
open Go.RowKit
open Go.Lib (hid)

/-- What NvWrites answers: how many writes, their cells, and whether. -/
def writesOut (size : Int) (ws l : List Int) : Nat × List Int × Bool :=
  if putB size ws l then (l.length + 3, putW (if (bestOf ws (l.length + 2) 2).1 = 0 then l.length + 2 else 0) l ((readOut size ws).2.1 + 1), true) else (0, [], false)

def WritesPost (size : Int) (ws l : List Int) (w : World) (e : Ending) (w' : World) : Prop :=
  ∃ sv, e = .returned (.tuple #[sv, .bool (writesOut size ws l).2.2]) ∧ Below w.heap.size w w' ∧ w'.ownsRow w.heap.size 61 2 sv (writesOut size ws l).1 (ints (writesOut size ws l).2.1)

theorem read_stood (m : Nat) (ws : List Int) (hf : formB m ws = true) (i : Nat) (hb : (bestOf ws (m + 2) 2).1 = (i : Int)) : (readOut m ws).2 = (cpC (copyOf ws (m + 2) i), true) := by
  unfold readOut
  have ht : (m : Int).toNat = m := by omega
  rw [if_pos hf, ht, hb, if_neg (by omega), show (i : Int).toNat = i by omega]

theorem read_fell (m : Nat) (ws : List Int) (hb : (bestOf ws (m + 2) 2).1 < 0) : (readOut m ws).2.2 = false := by
  unfold readOut
  have ht : (m : Int).toNat = m := by omega
  split
  · rw [ht, if_pos hb]
  · rfl

theorem stood (ws : List Int) (h : Nat) (hs : (standP (wholeL (ws.take h)) (wholeL (ws.drop h)) (cpC (ws.take h)) (cpC (ws.drop h))).2 = true) : ∃ i : Nat, (i = 0 ∨ i = 1) ∧ (bestOf ws h 2).1 = (i : Int) ∧ standP (wholeL (ws.take h)) (wholeL (ws.drop h)) (cpC (ws.take h)) (cpC (ws.drop h)) = ((i : Int), true) := by
  have hb := bestOf_stand ws h
  rw [if_pos hs] at hb
  have hq0 : 0 ≤ (standP (wholeL (ws.take h)) (wholeL (ws.drop h)) (cpC (ws.take h)) (cpC (ws.drop h))).1 := by unfold standP; split <;> (show (0 : Int) ≤ _; simp)
  generalize standP (wholeL (ws.take h)) (wholeL (ws.drop h)) (cpC (ws.take h)) (cpC (ws.drop h)) = q at *
  have hfew := best_few ws h
  obtain ⟨q1, q2⟩ := q
  simp only at hs hb hq0
  subst hs
  rcases hfew with h | h | h
  · exfalso; omega
  · exact ⟨0, Or.inl rfl, h, by rw [← hb, h]; rfl⟩
  · exact ⟨1, Or.inr rfl, h, by rw [← hb, h]; rfl⟩

theorem fell (ws : List Int) (h : Nat) (hs : (standP (wholeL (ws.take h)) (wholeL (ws.drop h)) (cpC (ws.take h)) (cpC (ws.drop h))).2 = false) : (bestOf ws h 2).1 < 0 := by
  rw [bestOf_stand ws h, if_neg (by rw [hs]; decide)]
  decide

theorem copyOf_numb {ws : List Int} (h : Numb ws) (k : Nat) (i : Nat) : Numb (copyOf ws k i) := by
  unfold copyOf
  split
  · exact numb_take h k
  · exact numb_drop h k

theorem writes_impl (size : Int) (ws l : List Int) (hn : ws.length ≤ 1048576) (hl : l.length ≤ 1048576) (a b : Value) (w : World) (ha : RowIn w a ws) (hb : RowIn w b l) : Calls Try.prog 15 #[.agg #[.int .i64 size, a], b] w (WritesPost size ws l w) := by
  unfold WritesPost writesOut
  by_cases hfv : (formB size ws && valsB l size) = true
  · obtain ⟨hf, hv⟩ := (Bool.and_eq_true _ _).mp hfv
    obtain ⟨v1, v2, v3, v4⟩ := valsB_iff.1 hv
    subst v3
    obtain ⟨h1, h2, h3, h4⟩ := formB_iff.1 hf
    cases hs : (standP (wholeL (ws.take (l.length + 2))) (wholeL (ws.drop (l.length + 2))) (cpC (ws.take (l.length + 2))) (cpC (ws.drop (l.length + 2)))).2 with
    | true =>
      obtain ⟨i, hi, hbi, hsi⟩ := stood ws _ hs
      have hro := read_stood l.length ws hf i hbi
      have hbd := cpC_bd (copyOf_numb h4 (l.length + 2) i)
      have hcp : copyOf ws (l.length + 2) i = if i = 0 then ws.take (l.length + 2) else ws.drop (l.length + 2) := by
        rcases hi with rfl | rfl <;> rfl
      by_cases hmx : cpC (copyOf ws (l.length + 2) i) = 1000000000
      · have hp : putB l.length ws l = false := by unfold putB; rw [hro, hmx]; simp
        rw [hp, if_neg (by decide)]
        exact (nvWrites_max l.length (l.length + 2) rfl (by omega) (by omega) ws (by omega) h4 i hi hsi _ hcp hmx l hv hl a b w ha hb).mono fun e w' ⟨he, hb⟩ => ⟨_, he, hb, World.ownsRow_nil _ _ _ _⟩
      · have hp : putB l.length ws l = true := by unfold putB; rw [hro, hv]; simpa using hmx
        rw [hp, if_pos rfl, hbi, hro]
        have hif : (if i = 0 then l.length + 2 else 0) = (if (i : Int) = 0 then l.length + 2 else 0) := by rcases hi with rfl | rfl <;> rfl
        rw [← hif]
        exact nvWrites_yes l.length (l.length + 2) rfl (by omega) (by omega) ws (by omega) h4 i hi hsi _ hcp hmx hbd l rfl v4 a b w ha hb
    | false =>
      have hp : putB l.length ws l = false := by unfold putB; rw [read_fell l.length ws (fell ws _ hs)]; rfl
      rw [hp, if_neg (by decide)]
      exact (nvWrites_none l.length (l.length + 2) rfl (by omega) (by omega) ws (by omega) h4 hs l hv hl a b w ha hb).mono fun e w' ⟨he, hb⟩ => ⟨_, he, hb, World.ownsRow_nil _ _ _ _⟩
  · have hfv : (formB size ws && valsB l size) = false := by simpa using hfv
    have hp : putB size ws l = false := by
      unfold putB
      cases hf : formB size ws with
      | false => unfold readOut; rw [hf]; rfl
      | true => rw [hf] at hfv; rw [show valsB l size = false by simpa using hfv]; simp
    rw [hp, if_neg (by decide)]
    exact (nvWrites_no size ws l hn hl hfv a b w ha hb).mono fun e w' ⟨he, hb⟩ => ⟨_, he, hb, World.ownsRow_nil _ _ _ _⟩

theorem writes_spec (size : Int) (ws l : List Int) (hn : ws.length ≤ 1048576) (hl : l.length ≤ 1048576) (a b : Value) (w : World) (ha : RowIn w a ws) (hb : RowIn w b l) (hnil : ∀ c, b = .slice none l.length c → c = 0) : Calls Try.prog 13 #[.agg #[.int .i64 size, a], b] w (WritesPost size ws l w) := by
  unfold WritesPost writesOut
  cases hp : putB size ws l with
  | false =>
    rw [if_neg (by decide)]
    exact specWrites_no size ws l hn hl hp a b w ha hb
  | true =>
    rw [if_pos rfl]
    have hp2 := hp
    unfold putB at hp2
    simp only [Bool.and_eq_true] at hp2
    obtain ⟨⟨hok, hv⟩, hmx⟩ := hp2
    obtain ⟨v1, v2, v3, v4⟩ := valsB_iff.1 hv
    subst v3
    have hf : formB l.length ws = true := by
      cases hf : formB l.length ws with
      | true => rfl
      | false => unfold readOut at hok; rw [hf] at hok; cases hok
    obtain ⟨h1, h2, h3, h4⟩ := formB_iff.1 hf
    cases hs : (standP (wholeL (ws.take (l.length + 2))) (wholeL (ws.drop (l.length + 2))) (cpC (ws.take (l.length + 2))) (cpC (ws.drop (l.length + 2)))).2 with
    | false => rw [read_fell l.length ws (fell ws _ hs)] at hok; cases hok
    | true =>
      obtain ⟨i, hi, hbi, hsi⟩ := stood ws _ hs
      have hro := read_stood l.length ws hf i hbi
      have hbd := cpC_bd (copyOf_numb h4 (l.length + 2) i)
      rw [hro] at hmx
      have hmx2 : cpC (copyOf ws (l.length + 2) i) ≠ 1000000000 := by simpa using hmx
      rw [hbi, hro]
      have hif : (if i = 0 then l.length + 2 else 0) = (if (i : Int) = 0 then l.length + 2 else 0) := by rcases hi with rfl | rfl <;> rfl
      rw [← hif]
      exact specWrites_yes (l.length + 2) l rfl (by omega) (by omega) v4 ws (by omega) h4 i hi hbi _ hro hmx2 hbd a b w ha hb hnil
end Go.Proofs.Ytknipcnlaaapoaa
