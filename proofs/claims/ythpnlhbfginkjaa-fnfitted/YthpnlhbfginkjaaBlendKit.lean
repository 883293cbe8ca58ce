/- Rows of products, and what they sum up to. -/
import Derived.Test.YthpnlhbfginkjaaBlendSum
import Derived.Test.YthpnlhbfginkjaaFloatOne
import Derived.Deep.RegionHeld3
namespace Go.Proofs.Ythpnlhbfginkjaa
open Go.RowKit
open Go.Lib (hid)

attribute [local go_sem] run_fadd run_fsub run_fmul run_fquo run_store_float

theorem step_append_fl {w : World} {ops : Array Oper} {o : Oper} {a : Act} {K : Act → World → Prop} {Q : Exit → Act → World → Prop} {E : Prop} (hgd : o.guard = none) (s x : Operand)
    (ho : o.op = .call { callee := .builtin .append, args := #[s, x], argTypes := #[32, 32] }) (base : Nat)
    (v : Value) (n : Nat) (xs : List Value) (hs : a.eval s = v) (hown : w.ownsRow base 24 1 v n xs)
    (g cap : Nat) (y : Nat) (hx : a.eval x = .slice (some ⟨g, 0, none⟩) 1 cap) (hk : w.cell? ⟨g, 0, none⟩ = some (.float .f64 y)) (hn : n + 1 ≤ 1000000000) (hbase : base ≤ w.heap.size)
    (h : ∀ v' w', w'.ownsRow base 24 1 v' (n + 1) (xs ++ fls [y]) → w.grownBy w' v.ownBlock → (v'.ownBlock = v.ownBlock ∨ v'.ownBlock = some w.heap.size) → K (a.put o.dst v') w') :
    if Region.wanted o (yielded ops a.tmps) = true then Oper.wp Try.prog o a w K Q else E := by
  rw [if_pos (by simp [Region.wanted, hgd])]
  obtain ⟨i0, hi0, hz0, hz1, hz2⟩ := info_parts flInfo
  obtain ⟨v', w', hr, h2, h3, h4⟩ := append_where_m (P := Try.prog) w base 32 o.type 24 i0 _ 1 8 Try.underlying32 hi0 hz0 hz1 hz2 rfl (by decide) v n xs hown ⟨g, 0, none⟩ 1 cap (fls [y]) (by simp [fls]) (fun j u hj => by
    have hj0 : j = 0 := by
      have := (List.getElem?_eq_some_iff.1 hj).1
      have h1 : (fls [y]).length = 1 := rfl
      omega
    subst hj0
    have : u = .float .f64 y := (Option.some.inj (show some (Value.float .f64 y) = some u from hj)).symm
    subst this
    exact hk) (fls_one [y]) (by unfold maxLen; omega) (by omega) hbase
  unfold Oper.wp execOp
  simp only [ho, resolve, invoke, builtin, Sem.run_bind, Sem.run_pure, Result.andThen_ok, List.map_toArray, List.map_cons, List.map_nil, hs, hx, hr]
  exact h v' w' h2 h3 h4

/-- A row of what a function says of a list's members. -/
theorem row_of {α : Type} {f : α → Nat} {ps : List α} {w : World} {a : Value} (h : RowFl w a (ps.map f)) :
    ∃ p c, a = .slice p ps.length c ∧ (ps ≠ [] → ∃ g o, p = some ⟨g, o, none⟩ ∧ g < w.heap.size ∧ ∀ j (h : j < ps.length), w.cell? ⟨g, o + j, none⟩ = some (.float .f64 (f ps[j]))) := by
  obtain ⟨p, c, rfl, _, hp⟩ := h
  refine ⟨p, c, by rw [List.length_map], fun hne => ?_⟩
  obtain ⟨g, o, rfl, hg, hc⟩ := hp (by simpa using hne)
  refine ⟨g, o, rfl, hg, fun j hj => ?_⟩
  have := hc j (by simpa using hj)
  simpa using this

/-- Two cells that stand, and all else of old. -/
abbrev Two (w : World) (p q : Addr) (x y : Value) (w' : World) : Prop := w'.cell? p = some x ∧ w'.cell? q = some y ∧ Below w.heap.size w w'

theorem Two.on {w wa wb : World} {p q : Addr} {x y : Value} (h : Two w p q x y wa) (hp : p.block < w.heap.size) (hq : q.block < w.heap.size) (hb : Below w.heap.size wa wb) : Two w p q x y wb :=
  ⟨(hb.cell hp).trans h.1, (hb.cell hq).trans h.2.1, h.2.2.trans hb⟩
theorem Two.drew {w wa : World} {p q : Addr} {x y : Value} (h : Two w p q x y wa) : Two w p q x y wa.drew := ⟨h.1, h.2.1, h.2.2.drew⟩
theorem Two.alloc {w wa : World} {p q : Addr} {x y : Value} (h : Two w p q x y wa) (hp : p.block < w.heap.size) (hq : q.block < w.heap.size) (c : Obj) : Two w p q x y (wa.alloc c) :=
  h.on hp hq ((Below.refl _ _).alloc h.2.2.size _)
theorem Two.call {w wa wb : World} {p q : Addr} {x y : Value} (h : Two w p q x y wa) (hp : p.block < w.heap.size) (hq : q.block < w.heap.size) (hb : Below wa.heap.size wa wb) : Two w p q x y wb :=
  h.on hp hq (hb.mono h.2.2.size)

/-- A row of products of pairs. -/
def PR (ps : List (Nat × Nat)) (l : List Nat) (i : Nat) : Prop := l.length = i ∧ ∀ j (h : j < ps.length), j < i → FS (fop .mul (some ps[j].1) (some ps[j].2)) (l.getD j 0)

theorem PR.put {ps : List (Nat × Nat)} {l : List Nat} {i : Nat} (h : PR ps l i) {x y r : Nat} (hi : i < ps.length) (hx : ps[i] = (x, y)) (hr : FS (fop .mul (some x) (some y)) r) : PR ps (l ++ [r]) (i + 1) := by
  refine ⟨by rw [List.length_append, h.1]; rfl, fun j hj hji => ?_⟩
  rcases Nat.lt_or_ge j i with hlt | hge
  · have h1 := h.2 j hj hlt
    have : (l ++ [r]).getD j 0 = l.getD j 0 := by
      simp only [List.getD_eq_getElem?_getD]
      rw [List.getElem?_append_left (by rw [h.1]; exact hlt)]
    rw [this]
    exact h1
  · have hji' : j = i := by omega
    subst hji'
    have : (l ++ [r]).getD j 0 = r := by
      have h1 := h.1
      subst h1
      simp
    rw [this, hx]
    exact hr

theorem fop_add_none (s : Option Nat) {o : Option Nat} {r : Nat} (h : FS o r) : fop .add s (some r) = fop .add s o := by
  cases o with
  | some a =>
    have e : r = a := h
    rw [e]
  | none =>
    cases s with
    | none => rfl
    | some x => exact bits_nan_right .add x h

/-- What products sum up to. -/
def psum (ps : List (Nat × Nat)) : Option Nat := ps.foldl (fun o p => fop .add o (fop .mul (some p.1) (some p.2))) (some 0)

theorem psum_next (ps : List (Nat × Nat)) (i : Nat) (h : i < ps.length) : psum (ps.take (i + 1)) = fop .add (psum (ps.take i)) (fop .mul (some ps[i].1) (some ps[i].2)) := by
  unfold psum
  rw [List.take_succ_eq_append_getElem h, List.foldl_append]
  rfl

theorem sum_psum {ps : List (Nat × Nat)} {l : List Nat} (h : PR ps l ps.length) : sumO l = psum ps := by
  have key : ∀ i, i ≤ ps.length → sumO (l.take i) = psum (ps.take i) := by
    intro i
    induction i with
    | zero => intro _; rfl
    | succ n ih =>
      intro hn
      have hl : n < l.length := by rw [h.1]; omega
      rw [sumO_next l n hl, psum_next ps n (by omega), ih (by omega)]
      have h1 := h.2 n (by omega) (by omega)
      have e : l.getD n 0 = l[n] := by simp [List.getD, hl]
      rw [e] at h1
      exact fop_add_none _ h1
  have h1 := key ps.length (Nat.le_refl _)
  rwa [List.take_length, ← h.1, List.take_length] at h1

set_option maxRecDepth 20000 in
set_option maxHeartbeats 4000000 in
theorem products_calls (ps : List (Nat × Nat)) (hn : ps.length ≤ 1000000) (a b : Value) (w : World) (ha : RowFl w a (ps.map Prod.fst)) (hb : RowFl w b (ps.map Prod.snd)) :
    Calls Try.prog 39 #[a, b] w fun e w' => ∃ v l, e = .returned v ∧ RowFl w' v l ∧ PR ps l ps.length ∧ Below w.heap.size w w' := by
  obtain ⟨p, c, rfl, hp⟩ := row_of ha
  obtain ⟨q, d, rfl, hq⟩ := row_of hb
  have HP := hid hp
  have HQ := hid hq
  clear hp hq ha hb
  go_enter Try.func39, Try.ntmps39
  go_wp2
  go_loopw [5, 9] (fun lv iv wr => ∃ i l, i ≤ ps.length ∧ iv = .int .i64 ((i : Nat) : Int) ∧ Hid (wr.ownsRow w.heap.size 24 1 lv i (fls l)) ∧ Hid (PR ps l i) ∧ Hid (Below w.heap.size w wr)) (fun _ iv _ => ps.length - (RowKit.intOf iv).toNat)
  case atStart => exact ⟨0, [], Nat.zero_le _, rfl, hid (World.ownsRow_nil _ _ _ _), hid ⟨rfl, fun j _ h => absurd h (Nat.not_lt_zero _)⟩, hid (Below.refl _ _)⟩
  case round =>
    obtain ⟨i, l, hi, rfl, HO, HR, HB⟩ := hrel
    by_cases hlt : i < ps.length
    · have hne : ps ≠ [] := fun h => by rw [h] at hlt; cases hlt
      obtain ⟨g, o, rfl, hg, hc⟩ := HP.out hne
      obtain ⟨g2, o2, rfl, hg2, hc2⟩ := HQ.out hne
      have HS0 : Hid (Two w ⟨g, o + i, none⟩ ⟨g2, o2 + i, none⟩ (.float .f64 ps[i].1) (.float .f64 ps[i].2) wr) := hid ⟨(HB.out.cell (p := ⟨g, o + i, none⟩) hg).trans (hc i hlt), (HB.out.cell (p := ⟨g2, o2 + i, none⟩) hg2).trans (hc2 i hlt), HB.out⟩
      clear hc hc2
      have HX : Hid (∀ r, FS (fop .mul (some ps[i].1) (some ps[i].2)) r → PR ps (l ++ [r]) (i + 1)) := hid (fun r hr => HR.out.put hlt rfl hr)
      generalize ps[i].1 = x at *
      generalize ps[i].2 = y at *
      have b1 : (0 : Int) ≤ (i : Int) := by omega
      have b2 : (i : Int) < (ps.length : Int) := by omega
      have hzr : w.heap.size ≤ wr.heap.size := HB.out.size
      go_wp2
      go_region_held3 (fun w' => w'.cell? ⟨g, o + i, none⟩ = some (.float .f64 x) ∧ w'.cell? ⟨g2, o2 + i, none⟩ = some (.float .f64 y) ∧ Below w.heap.size w w') (first | with_reducible assumption | exact Two.drew HS0.out | exact Two.alloc (by with_reducible assumption) hg hg2 _) ((first | (go_at_call 58; refine (times_calls (FS.some x) (FS.some y) _).mono ?_; rintro e w6 ⟨r, rfl, hr, hb6⟩; have hS6 := Two.call (w := w) (p := ⟨g, o + i, none⟩) (q := ⟨g2, o2 + i, none⟩) (x := .float .f64 x) (y := .float .f64 y) (by with_reducible assumption) hg hg2 hb6; have HO6 := hid (own_below (show World.ownsRow wr.drew _ _ _ _ _ _ from HO.out) hb6); have HF6 := hid hr; clear hr hb6) | (refine step_append_fl rfl (.tmp 12) (.tmp 22) (by rfl) w.heap.size _ i (fls l) (by rfl) (own_below HO6.out ((Below.refl _ _).alloc (Nat.le_refl _) _)) w6.heap.size 1 r (by rfl) ((cell_of_row _ _ 0 _ _ _ (heap_alloc_new _ _)).trans rfl) (by omega) (Nat.le_trans hS6.2.2.size (by simp)) ?_; intro v7 w7 ho7 hg7 hv7; have hS7 := Two.on (Two.alloc hS6 hg hg2 _) hg hg2 (Below.grown (Below.refl _ _) hg7 (Nat.le_trans hS6.2.2.size (by simp)) (fun k hk => (HO6.out.lt k hk).1)); have HO7 := hid ho7; clear ho7 hg7 hv7) | (fail "no arm")))
      go_wp2
      go_roundw
      case rel => exact ⟨i + 1, l ++ [r], by omega, by go_num, hid (by rw [fls_append]; exact HO7.out), hid (HX.out r HF6.out), hid hS7.2.2⟩
      case measure => simp [RowKit.intOf]; omega
    · have hie : i = ps.length := by omega
      subst hie
      go_wp2
      go_ret
      exact ⟨_, l, rfl, row_fl_own2 HR.out.1.symm HO.out, HR.out, HB.out⟩
end Go.Proofs.Ythpnlhbfginkjaa
