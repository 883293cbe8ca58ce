/- The specification's NvRead. -/
import Derived.Test.YtknipcnlaaapoaaNvReadI
namespace Go.Proofs.Ytknipcnlaaapoaa
open Go.RowKit
open Go.Lib (hid)

theorem l3Formed_calls (size : Int) (ws : List Int) (hn : ws.length ≤ 1048576) (a : Value) (w : World) (ha : RowIn w a ws) :
    Calls Try.prog 30 #[.agg #[.int .i64 size, a]] w fun e w' => e = .returned (.bool (formB size ws)) ∧ Below w.heap.size w w' := by
  have HA := hid ha
  obtain ⟨p, c, rfl, hc, _⟩ := ha
  have HW : Hid (Below w.heap.size w (w.alloc (.cells #[.int .i64 size, .slice p ws.length c] 26))) := hid ((Below.refl _ _).alloc (Nat.le_refl _) _)
  have CI := hid (fun W => nin_calls size 1 20 W)
  have CN := hid (fun a W (hW : RowIn W a ws) => l3Numbers_calls ws hn a W hW)
  by_cases h1 : 1 ≤ size ∧ size ≤ 20
  · rw [decide_eq_true h1] at CI
    obtain ⟨h1, h2⟩ := h1
    by_cases h3 : (ws.length : Int) = 2 * (size + 2)
    · have h3b : ((ws.length : Int) == 2 * (size + 2)) = true := by rw [beq_iff_eq]; exact h3
      have e : formB size ws = numbB ws := by simp [formB, h1, h2, h3]
      rw [e]
      clear e
      go_enter Try.func30, Try.ntmps30
      go_wp2_with (first | (go_at_call 31; refine (CI.out _).mono ?_; rintro e w1 ⟨rfl, rfl⟩) | (go_at_call 27; refine (CN.out _ _ (HA.out.on HW.out)).mono ?_; rintro e w1 ⟨rfl, rfl⟩))
      go_ret
      exact ⟨rfl, HW.out⟩
    · have h3b : ((ws.length : Int) == 2 * (size + 2)) = false := by rw [beq_eq_false_iff_ne]; exact h3
      rw [formB_no (fun h => h3 h.2.2.1)]
      go_enter Try.func30, Try.ntmps30
      go_wp2_with (go_at_call 31; refine (CI.out _).mono ?_; rintro e w1 ⟨rfl, rfl⟩)
      go_ret
      exact ⟨rfl, HW.out⟩
  · rw [decide_eq_false h1] at CI
    rw [formB_no (fun h => h1 ⟨h.1, h.2.1⟩)]
    clear h1
    go_enter Try.func30, Try.ntmps30
    go_wp2_with (go_at_call 31; refine (CI.out _).mono ?_; rintro e w1 ⟨rfl, rfl⟩)
    go_ret
    exact ⟨rfl, HW.out⟩

/-- The words of the first or the second copy. -/
def copyOf (ws : List Int) (h k : Nat) : List Int := if k = 0 then ws.take h else ws.drop h

theorem copyOf_len (ws : List Int) (h k : Nat) (hws : ws.length = 2 * h) : (copyOf ws h k).length = h := by
  unfold copyOf
  split
  · rw [List.length_take]; omega
  · rw [List.length_drop]; omega

set_option maxHeartbeats 1000000 in
theorem l3Copy_calls (m h k : Nat) (hh : h = m + 2) (h1 : 1 ≤ m) (h20 : m ≤ 20) (hk : k = 0 ∨ k = 1) (ws : List Int) (hws : ws.length = 2 * h) (a : Value) (w : World) (ha : RowIn w a ws) :
    Calls Try.prog 46 #[.agg #[.int .i64 m, a], .int .i64 k] w fun e w' => ∃ g o c, e = .returned (.slice (some ⟨g, o, none⟩) h c) ∧ Below w.heap.size w w' ∧ RowIn w' (.slice (some ⟨g, o, none⟩) h c) (copyOf ws h k) := by
  have HA := hid ha
  obtain ⟨p, c, rfl, hc, hp⟩ := ha
  obtain ⟨g, o, rfl, hg, hp0⟩ := hp (fun e => by rw [e] at hws; simp at hws; omega)
  clear hp hp0
  have HW : Hid (Below w.heap.size w (w.alloc (.cells #[.int .i64 m, .slice (some ⟨g, o, none⟩) ws.length c] 26))) := hid ((Below.refl _ _).alloc (Nat.le_refl _) _)
  have HT := hid (row_take HA.out h (by omega))
  have HD := hid (row_drop HA.out h (by omega))
  rw [show ws.length - h = h by omega] at HD
  have hcast : (m : Int) + 2 = (h : Int) := by omega
  have b1 : (0 : Int) ≤ (h : Int) := by omega
  have b2 : (h : Int) ≤ (c : Int) := by omega
  have b3 : (h : Int) + (h : Int) ≤ (c : Int) := by omega
  have b4 : ¬ c = h := by omega
  have b6 : (h : Int) ≤ 22 := by omega
  have b7 : h + h - h = h := by omega
  clear hh hws
  rcases hk with rfl | rfl
  · go_enter Try.func46, Try.ntmps46
    go_wp2
    go_ret
    exact ⟨g, o, c, rfl, HW.out, HT.out.on HW.out⟩
  · go_enter Try.func46, Try.ntmps46
    go_wp2
    have HB7 := hid b7
    rw [b7]
    go_ret
    exact ⟨g, o + h, c - h, rfl, HW.out, HD.out.on HW.out⟩

/-- The best copy and its count, behind so many that were looked at. -/
def bestOf (ws : List Int) (h : Nat) : Nat → Int × Int
  | 0 => (-1, 0)
  | k + 1 => if wholeL (copyOf ws h k) && decide (cpC (copyOf ws h k) > (bestOf ws h k).2) then ((k : Int), cpC (copyOf ws h k)) else bestOf ws h k

theorem whole_ge {l : List Int} (h : wholeL l = true) : 1 ≤ cpC l := by
  unfold wholeL wholeB at h
  simp at h
  exact h.1

theorem bestOf_stand (ws : List Int) (h : Nat) : (bestOf ws h 2).1 = if (standP (wholeL (ws.take h)) (wholeL (ws.drop h)) (cpC (ws.take h)) (cpC (ws.drop h))).2 then (standP (wholeL (ws.take h)) (wholeL (ws.drop h)) (cpC (ws.take h)) (cpC (ws.drop h))).1 else -1 := by
  have e0 : copyOf ws h 0 = ws.take h := rfl
  have e1 : copyOf ws h 1 = ws.drop h := rfl
  unfold bestOf bestOf bestOf standP
  rw [e0, e1]
  cases hA : wholeL (ws.take h) <;> cases hB : wholeL (ws.drop h)
  · simp
  · have h2 := whole_ge hB
    have h3 : decide (cpC (ws.drop h) > 0) = true := decide_eq_true (by omega)
    simp [h3]
  · have h1 := whole_ge hA
    have h3 : decide (cpC (ws.take h) > 0) = true := decide_eq_true (by omega)
    simp [h3]
  · have h1 := whole_ge hA
    have h2 := whole_ge hB
    have h3 : decide (cpC (ws.take h) > 0) = true := decide_eq_true (by omega)
    by_cases h4 : cpC (ws.drop h) > cpC (ws.take h)
    · simp [h3, h4]
    · simp [h3, h4]

theorem cpSum (l : List Int) (h2 : 2 ≤ l.length) : (l.drop 1).sum = cpC l + (cpN l).sum := by
  have e : l.drop 1 = cpN l ++ [cpC l] := by
    unfold cpN cpC
    have h1 : l.length - 2 < (l.drop 1).length := by rw [List.length_drop]; omega
    have : (l.drop 1).take (l.length - 2 + 1) = l.drop 1 := List.take_of_length_le (by rw [List.length_drop]; omega)
    rw [List.take_succ_eq_append_getElem h1, List.getElem_drop] at this
    have e2 : l.getD (l.length - 1) 0 = l[1 + (l.length - 2)] := by
      have : l.length - 1 = 1 + (l.length - 2) := by omega
      rw [this]
      simp [List.getD, show 1 + (l.length - 2) < l.length by omega]
    rw [e2]
    exact this.symm
  rw [e, List.sum_append]
  simp
  omega

set_option maxRecDepth 20000 in
set_option maxHeartbeats 2000000 in
theorem l3Stands_calls (m h : Nat) (hh : h = m + 2) (h1 : 1 ≤ m) (h20 : m ≤ 20) (ws : List Int) (hws : ws.length = 2 * h) (hnb : Numb ws) (a : Value) (w : World) (ha : RowIn w a ws) :
    Calls Try.prog 28 #[.agg #[.int .i64 m, a]] w fun e w' => e = .returned (.int .i64 (bestOf ws h 2).1) ∧ Below w.heap.size w w' := by
  have HA := hid ha
  obtain ⟨p, c, rfl, hc, _⟩ := ha
  have HW : Hid (Below w.heap.size w (w.alloc (.cells #[.int .i64 m, .slice p ws.length c] 26))) := hid ((Below.refl _ _).alloc (Nat.le_refl _) _)
  have HBX : Hid ((w.alloc (.cells #[.int .i64 m, .slice p ws.length c] 26)).heap[w.heap.size]? = some (.cells #[.int .i64 m, .slice p ws.length c] 26)) := hid (heap_alloc_new _ _)
  have CP := hid (fun k (hk : k = 0 ∨ k = 1) a W (hW : RowIn W a ws) => l3Copy_calls m h k hh h1 h20 hk ws hws a W hW)
  have CL := hid (fun k => copyOf_len ws h k hws)
  have CN : Hid (∀ k, Numb (copyOf ws h k)) := hid (fun k => by
    unfold copyOf
    split
    · exact numb_take hnb h
    · exact numb_drop hnb h)
  have hh3 : 3 ≤ h := by omega
  have hh22 : h ≤ 22 := by omega
  clear hh hws hnb
  go_enter Try.func28, Try.ntmps28
  go_wp2
  go_loopw [3, 4, 5] (fun bv mv iv wr => ∃ k : Nat, ∃ b m' : Int, k ≤ 2 ∧ iv = .int .i64 k ∧ bv = .int .i64 b ∧ mv = .int .i64 m' ∧ Hid ((b, m') = bestOf ws h k) ∧ Below w.heap.size w wr ∧ wr.heap[w.heap.size]? = some (.cells #[.int .i64 m, .slice p ws.length c] 26)) (fun _ _ iv _ => 2 - (RowKit.intOf iv).toNat)
  case atStart => exact ⟨0, -1, 0, by omega, rfl, rfl, rfl, hid rfl, HW.out, HBX.out⟩
  case round =>
    obtain ⟨k, b, m', hk, rfl, rfl, rfl, HBE, hbel, hbx⟩ := hrel
    have HBL := hid hbel
    have HBK := hid hbx
    have hxl : w.heap.size < wr.heap.size := by
      have := (Array.getElem?_eq_some_iff.1 hbx).1
      exact this
    obtain ⟨v0, v1⟩ := var_cells hbx
    by_cases hlt : k < 2
    · clear hbel hbx
      go_wp2_with (go_at_call 46; refine (CP.out k (by omega) _ _ (HA.out.on HBL.out)).mono ?_; rintro e w5 ⟨g, o, c5, rfl, hb5, hr5⟩; refine Hid.out ?_)
      refine hid ?_
      have hL := CL.out k
      have hN := CN.out k
      have hbd := cpC_bd hN
      have HBE2 : Hid (bestOf ws h (k + 1) = if wholeL (copyOf ws h k) && decide (cpC (copyOf ws h k) > m') then ((k : Int), cpC (copyOf ws h k)) else (b, m')) := hid (by rw [HBE.out]; show (if _ then _ else bestOf ws h k) = _; rw [← HBE.out])
      have HB5 := hid (HBL.out.trans (hb5.mono HBL.out.size))
      have HX5 := hid ((hb5.block w.heap.size hxl).trans HBK.out)
      generalize copyOf ws h k = L at *
      obtain ⟨_, _, e, _, hcell⟩ := hr5
      have HR5 : Hid (RowIn w5 (.slice (some ⟨g, o, none⟩) h c5) L) := hid ⟨_, _, e, by assumption, hcell⟩
      injection e with e1 e2 e3
      subst e1
      clear e2 e3
      obtain ⟨_, _, e, hg5, hc5⟩ := hcell (fun e => by rw [e] at hL; simp at hL; omega)
      injection e with e
      injection e with e1 e2
      subst e1; subst e2
      have q0 := hc5 0 (by omega)
      have q1 := hc5 (h - 1) (by omega)
      have z0 : L[0]'(by omega) = cpK L := by unfold cpK; simp [List.getD, show 0 < L.length by omega]
      have z1 : L[h - 1]'(by omega) = cpC L := by unfold cpC; simp [List.getD, hL, show h - 1 < h by omega]
      rw [z0] at q0
      rw [z1] at q1
      rw [Nat.add_zero] at q0
      have CK := hid (fun a W (hW : RowIn W a L) => l3Check_calls L (cpC L + (cpN L).sum) (cpSum L (by omega)) (by omega) (by omega) (fun x hx => by have := hN x (List.mem_of_mem_drop hx); omega) a W hW)
      clear hb5 hc5 hcell hN z0 z1 v0 v1
      have bq : (h : Int) - 1 = ((h - 1 : Nat) : Int) := by omega
      generalize hCC : cpC L = C at *
      generalize hKK : cpK L = K0 at *
      generalize hSS : (cpN L).sum = SS at *
      have HWL : Hid (wholeL L = (decide (1 ≤ C) && (K0 == 1 + (C + SS) % 999983))) := hid (by unfold wholeL wholeB; rw [hCC, hKK, hSS])
      rw [HWL.out] at HBE2
      have bq2 : (0 : Int) ≤ ((h - 1 : Nat) : Int) := by omega
      have bq3 : ((h - 1 : Nat) : Int) < (h : Int) := by omega
      have bq4 : (0 : Int) < (h : Int) := by omega
      clear hCC hKK hSS hL
      by_cases c1 : 1 ≤ C
      · have d1 : decide (C ≥ 1) = true := decide_eq_true c1
        rw [show decide (1 ≤ C) = true from d1] at HBE2
        by_cases c2 : (K0 == 1 + (C + SS) % 999983) = true
        · rw [c2] at HBE2
          by_cases c3 : C > m'
          · have d3 : decide (C > m') = true := decide_eq_true c3
            rw [d3] at HBE2
            go_wp2
            go_quiet ((go_at_call 29; exact Calls.quiet_of_same (CK.out _ _ (HR5.out.on (drewN_below (Below.refl _ _) _)))))
            go_wp2
            go_roundw
            case rel => exact ⟨k + 1, (k : Int), C, by omega, by go_num, rfl, rfl, hid (by rw [HBE2.out]; rfl), drewN_below HB5.out _, HX5.out⟩
            case measure => simp [RowKit.intOf]; omega
          · have d3 : decide (C > m') = false := decide_eq_false c3
            rw [d3] at HBE2
            go_wp2
            go_quiet ((go_at_call 29; exact Calls.quiet_of_same (CK.out _ _ (HR5.out.on (drewN_below (Below.refl _ _) _)))))
            go_wp2
            go_roundw
            case rel => exact ⟨k + 1, b, m', by omega, by go_num, rfl, rfl, hid (by rw [HBE2.out]; rfl), drewN_below HB5.out _, HX5.out⟩
            case measure => simp [RowKit.intOf]; omega
        · have c2' : (K0 == 1 + (C + SS) % 999983) = false := by simpa using c2
          rw [c2'] at HBE2
          clear c2
          go_wp2
          go_quiet ((go_at_call 29; exact Calls.quiet_of_same (CK.out _ _ (HR5.out.on (drewN_below (Below.refl _ _) _)))))
          go_wp2
          go_roundw
          case rel => exact ⟨k + 1, b, m', by omega, by go_num, rfl, rfl, hid (by rw [HBE2.out]; rfl), drewN_below HB5.out _, HX5.out⟩
          case measure => simp [RowKit.intOf]; omega
      · have d1 : decide (C ≥ 1) = false := decide_eq_false c1
        rw [show decide (1 ≤ C) = false from d1] at HBE2
        go_wp2
        go_quiet (fail)
        go_wp2
        go_roundw
        case rel => exact ⟨k + 1, b, m', by omega, by go_num, rfl, rfl, hid (by rw [HBE2.out]; rfl), drewN_below HB5.out _, HX5.out⟩
        case measure => simp [RowKit.intOf]; omega
    · have hke : k = 2 := by omega
      subst hke
      clear hbel hbx
      go_wp2
      go_ret
      exact ⟨by rw [← HBE.out]; rfl, HBL.out⟩

theorem step_append_ints {w : World} {ops : Array Oper} {o : Oper} {a : Act} {K : Act → World → Prop} {Q : Exit → Act → World → Prop} {E : Prop} (hgd : o.guard = none) (s x : Operand)
    (ho : o.op = .call { callee := .builtin .append, args := #[s, x], argTypes := #[24, 24] }) (base : Nat)
    (v : Value) (n : Nat) (xs : List Value) (hs : a.eval s = v) (hown : w.ownsRow base 2 1 v n xs)
    (g o' c : Nat) (ys : List Int) (hy : 0 < ys.length) (hx : a.eval x = .slice (some ⟨g, o', none⟩) ys.length c) (hsx : RowIn w (.slice (some ⟨g, o', none⟩) ys.length c) ys) (hn : n + ys.length ≤ 1000000000) (hbase : base ≤ w.heap.size)
    (h : ∀ v' w', w'.ownsRow base 2 1 v' (n + ys.length) (xs ++ ints ys) → w.grownBy w' v.ownBlock → K (a.put o.dst v') w') :
    if Region.wanted o (yielded ops a.tmps) = true then Oper.wp Try.prog o a w K Q else E := by
  rw [if_pos (by simp [Region.wanted, hgd])]
  obtain ⟨i0, hi0, hz0, hz1, hz2⟩ := info_parts intInfo
  obtain ⟨p, c', e, hc, hp⟩ := hsx
  injection e with e1 e2 e3
  subst e1
  obtain ⟨g', o'', e, hg, hcell⟩ := hp (fun e => by rw [e] at hy; cases hy)
  injection e with e
  injection e with e1 e2
  subst e1; subst e2
  obtain ⟨v', w', hr, h2, h3, _⟩ := append_where_m (P := Try.prog) w base 24 o.type 2 i0 _ 1 8 Try.underlying24 hi0 hz0 hz1 hz2 rfl (by decide) v n xs hown ⟨g, o', none⟩ ys.length c (ints ys) (by rw [ints_len, Nat.mul_one]) (fun j u hj => by
    have hjl : j < ys.length := by rw [← ints_len]; exact (List.getElem?_eq_some_iff.1 hj).1
    rw [Addr.add_mid, hcell j hjl]
    rw [ints_at ys j hjl] at hj
    exact hj) (ints_one ys) (by unfold maxLen; omega) (by omega) hbase
  unfold Oper.wp execOp
  simp only [ho, resolve, invoke, builtin, Sem.run_bind, Sem.run_pure, Result.andThen_ok, List.map_toArray, List.map_cons, List.map_nil, hs, hx, hr]
  exact h v' w' h2 h3

/-- What NvRead answers. -/
def readOut (size : Int) (ws : List Int) : List Int × Int × Bool :=
  if formB size ws then
    (if (bestOf ws (size.toNat + 2) 2).1 < 0 then ([], 0, false) else (cpN (copyOf ws (size.toNat + 2) (bestOf ws (size.toNat + 2) 2).1.toNat), cpC (copyOf ws (size.toNat + 2) (bestOf ws (size.toNat + 2) 2).1.toNat), true))
  else ([], 0, false)

def ReadPost (size : Int) (ws : List Int) (w : World) (e : Ending) (w' : World) : Prop :=
  ∃ sv, e = .returned (.tuple #[sv, .int .i64 (readOut size ws).2.1, .bool (readOut size ws).2.2]) ∧ Below w.heap.size w w' ∧ w'.ownsRow w.heap.size 2 1 sv (readOut size ws).1.length (ints (readOut size ws).1)

theorem best_few (ws : List Int) (h : Nat) : (bestOf ws h 2).1 = -1 ∨ (bestOf ws h 2).1 = 0 ∨ (bestOf ws h 2).1 = 1 := by
  have h1 : (bestOf ws h 1).1 = -1 ∨ (bestOf ws h 1).1 = 0 := by
    show (if _ then _ else bestOf ws h 0).1 = _ ∨ (if _ then _ else bestOf ws h 0).1 = _
    split
    · exact Or.inr rfl
    · exact Or.inl rfl
  show (if _ then _ else bestOf ws h 1).1 = _ ∨ (if _ then _ else bestOf ws h 1).1 = _ ∨ (if _ then _ else bestOf ws h 1).1 = _
  split
  · exact Or.inr (Or.inr rfl)
  · rcases h1 with h1 | h1
    · exact Or.inl h1
    · exact Or.inr (Or.inl h1)

theorem read_impl (size : Int) (ws : List Int) (hn : ws.length ≤ 1048576) (a : Value) (w : World) (ha : RowIn w a ws) : Calls Try.prog 8 #[.agg #[.int .i64 size, a]] w (ReadPost size ws w) := by
  unfold ReadPost readOut
  by_cases hf : formB size ws = true
  · rw [if_pos hf]
    obtain ⟨h1, h2, h3, h4⟩ := formB_iff.1 hf
    obtain ⟨m, hm⟩ : ∃ m : Nat, size = (m : Int) := ⟨size.toNat, by omega⟩
    subst hm
    have ht : (m : Int).toNat = m := by omega
    rw [ht]
    have hb := bestOf_stand ws (m + 2)
    by_cases hs : (standP (wholeL (ws.take (m + 2))) (wholeL (ws.drop (m + 2))) (cpC (ws.take (m + 2))) (cpC (ws.drop (m + 2)))).2 = true
    · rw [if_pos hs] at hb
      have hi : ∃ i : Nat, (i = 0 ∨ i = 1) ∧ standP (wholeL (ws.take (m + 2))) (wholeL (ws.drop (m + 2))) (cpC (ws.take (m + 2))) (cpC (ws.drop (m + 2))) = ((i : Int), true) := by
        have hq0 : 0 ≤ (standP (wholeL (ws.take (m + 2))) (wholeL (ws.drop (m + 2))) (cpC (ws.take (m + 2))) (cpC (ws.drop (m + 2)))).1 := by unfold standP; split <;> (show (0 : Int) ≤ _; simp)
        generalize standP (wholeL (ws.take (m + 2))) (wholeL (ws.drop (m + 2))) (cpC (ws.take (m + 2))) (cpC (ws.drop (m + 2))) = q at *
        have hfew := best_few ws (m + 2)
        obtain ⟨q1, q2⟩ := q
        simp only at hs hb hq0
        subst hs
        rcases hfew with h | h | h
        · rw [h] at hb
          have hst := hb
          exfalso
          have h0 : 0 ≤ q1 := hq0
          omega
        · exact ⟨0, Or.inl rfl, by rw [← hb, h]; rfl⟩
        · exact ⟨1, Or.inr rfl, by rw [← hb, h]; rfl⟩
      obtain ⟨i, hi, hsi⟩ := hi
      rw [hsi] at hb
      rw [hb, if_neg (by show ¬ ((i : Int) < 0); omega)]
      have hti : (i : Int).toNat = i := by omega
      have hlen : (cpN (copyOf ws (m + 2) i)).length = m := by
        have := copyOf_len ws (m + 2) i (by omega)
        unfold cpN; simp; omega
      refine (nvRead_yes m (m + 2) rfl (by omega) (by omega) ws (by omega) h4 i hi hsi (copyOf ws (m + 2) i) rfl a w ha).mono fun e w' ⟨sv, he, hb, ho⟩ => ⟨sv, ?_, hb, ?_⟩
      · show e = .returned (.tuple #[sv, .int .i64 (cpC (copyOf ws (m + 2) (i : Int).toNat)), .bool true])
        rw [hti]; exact he
      · show w'.ownsRow w.heap.size 2 1 sv (cpN (copyOf ws (m + 2) (i : Int).toNat)).length (ints (cpN (copyOf ws (m + 2) (i : Int).toNat)))
        rw [hti, hlen]; exact ho
    · rw [if_neg hs] at hb
      rw [hb, if_pos (by decide)]
      exact (nvRead_none m (m + 2) rfl (by omega) (by omega) ws (by omega) h4 (by simpa using hs) a w ha).mono fun e w' ⟨he, hb⟩ => ⟨_, he, hb, World.ownsRow_nil _ _ _ _⟩
  · rw [if_neg hf]
    exact (nvRead_ill size ws hn (by simpa using hf) a w ha).mono fun e w' ⟨he, hb⟩ => ⟨_, he, hb, World.ownsRow_nil _ _ _ _⟩
end Go.Proofs.Ytknipcnlaaapoaa
