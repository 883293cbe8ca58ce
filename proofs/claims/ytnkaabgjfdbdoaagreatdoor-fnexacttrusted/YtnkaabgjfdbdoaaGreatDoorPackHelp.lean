/- Laid together: IntAppend, NvSpec, NvSpecNew, IntHelp, NvHelp, NvRHelp. -/
import Derived.Test.YtnkaabgjfdbdoaaGreatDoorPackNv
import Derived.Test.YtnkaabgjfdbdoaaGreatDoorPackImpl
import Derived.Laws.AppendOwnNone
import Derived.Lib.AppendZerosOnto
import Derived.Test.YtnkaabgjfdbdoaaGreatDoorBase
import Derived.Deep.RegionWith

namespace Go.Proofs.YtnkaabgjfdbdoaaGreatDoor
open Go.RowKit
open Go.Lib (hid)

/-- A whole slice of integers more on a slice of integers that the call has made. -/
theorem wp_append_ints {w : World} {ops : Array Oper} {rest : List Oper} {o : Oper} {a : Act} {Q : Exit → Act → World → Prop} (hgd : o.guard = none) (s x : Operand)
    (ho : o.op = .call { callee := .builtin .append, args := #[s, x], argTypes := #[22, 22] }) (base : Nat)
    (v : Value) (n : Nat) (xs : List Value) (hs : a.eval s = v) (hown : w.ownsRow base 2 1 v n xs)
    (sx : Value) (ys : List Int) (hx : a.eval x = sx) (hsx : RowIn w sx ys) (hn : n + ys.length ≤ 1000000000) (hbase : base ≤ w.heap.size) (hnil : ∀ c, sx = .slice none ys.length c → c = 0)
    (h : ∀ v' w', w'.ownsRow base 2 1 v' (n + ys.length) (xs ++ ints ys) → w.grownBy w' v.ownBlock → (v'.ownBlock = v.ownBlock ∨ v'.ownBlock = some w.heap.size) → wpList Tryz.prog ops Q rest (a.put o.dst v') w') : wpList Tryz.prog ops Q (o :: rest) a w := by
  obtain ⟨i0, hi0, hz0, hz1, hz2⟩ := info_parts intInfo
  obtain ⟨p, c, rfl, hc, hp⟩ := hsx
  by_cases hy : ys = []
  · subst hy
    cases p with
    | none =>
      obtain rfl := hnil c rfl
      refine wpList_append_own_none hgd s x 22 ho base 2 i0 1 Tryz.underlying22 hi0 v n xs hs hown hx ?_
      refine h v w ?_ (grown_refl _ _) (Or.inl rfl)
      simpa [ints] using hown
    | some ad =>
      refine wp_append_where_m w hgd s x 22 ho base 2 i0 _ 1 8 Tryz.underlying22 hi0 hz0 hz1 hz2 rfl (by decide) v n xs hs hown ad 0 c [] hx rfl ?_ ?_ ?_ ?_ hbase h
      · intro j u hj; cases hj
      · intro u hu; cases hu
      · unfold maxLen; simp at hn; omega
      · simp at hn; omega
  · obtain ⟨g, o', rfl, hg, hcell⟩ := hp hy
    refine wp_append_where_m w hgd s x 22 ho base 2 i0 _ 1 8 Tryz.underlying22 hi0 hz0 hz1 hz2 rfl (by decide) v n xs hs hown ⟨g, o', none⟩ ys.length c (ints ys) hx (by simp [ints]) ?_ (ints_one ys) ?_ ?_ hbase h
    · intro j u hj
      have hjl : j < ys.length := by rw [← ints_len]; exact (List.getElem?_eq_some_iff.1 hj).1
      rw [Addr.add_mid, hcell j hjl]
      rw [ints_at ys j hjl] at hj
      exact hj
    · unfold maxLen; omega
    · omega

theorem zeros_cells (k : Nat) : (Builtin.zeroCells (Value.int .i64 0).cells k) = (ints (noughts k)).toArray := by
  apply Array.ext'
  show (Builtin.zeroCells #[Value.int .i64 0] k).toList = _
  have e : ∀ i : Nat, [Value.int .i64 0][i % 1]?.getD default = Value.int .i64 0 := fun i => by simp [Nat.mod_one]
  simp [Builtin.zeroCells, ints, noughts, e, List.map_const']

/-- So many noughts more on a slice of integers that the call has made. -/
theorem append_zeros_own (w : World) (base : Nat) (v : Value) (n : Nat) (xs : List Value) (ty : TypeId) (hown : w.ownsRow base 2 1 v n xs) (h0 : 0 < n) (k : Nat) (hk : 0 < k) (hn : n + k ≤ 1000000000) (hbase : base ≤ w.heap.size) :
    ∃ v' w', (Builtin.append_ #[22, 3] ty #[v, .int .i64 k]).run Tryz.prog w = .ok v' w' ∧ w'.ownsRow base 2 1 v' (n + k) (xs ++ ints (noughts k)) ∧ w.grownBy w' v.ownBlock := by
  obtain ⟨i0, hi0, hz0, hz1, hz2⟩ := info_parts intInfo
  have hol := hown.1
  rcases hown.2 with ⟨_, hz⟩ | ⟨g, cap, cur, rfl, hbg, hg, hnc, hcm, hcs, htake⟩
  · omega
  · rw [Nat.mul_one] at hcs htake hol
    have hkl : (ints (noughts k)).length = k := by rw [ints_len, noughts_len]
    have hwr : IntKind.i64.wrap (k : Int) = k := by rw [IntKind.wrap_i64]; omega
    have hneg : ¬ ((k : Int) < 0) := by omega
    have h48i : ¬ (281474976710656 < (k : Int) * (i0.bytes : Int)) := by rw [hz2]; omega
    by_cases hroom : n + k ≤ cap
    · have hst := run_storeCells_at Tryz.prog g n 2 (ints (noughts k)) 0 cur w hg (by rw [hkl, hcs]; omega) (ints_one _)
      simp only [Nat.add_zero] at hst
      refine ⟨.slice (some ⟨g, 0, none⟩) (n + k) cap, w.setRow g (cur.toList.take n ++ ints (noughts k) ++ cur.toList.drop (n + (ints (noughts k)).length)).toArray, ?_, ?_, ?_⟩
      · have hkz : ¬ (k = 0) := by omega
        simp [Builtin.append_, run_underlying Tryz.underlying22, run_underlying Tryz.underlying3, sizeOf, typeInfo, zeroValue, hi0, hz0, hz1, asInt, asIntOf, hwr, hneg, h48i, hroom, hkz, Addr.add_mid, zeros_cells, hst]
      · refine ⟨by rw [List.length_append, hol, hkl, Nat.mul_one], Or.inr ⟨g, cap, _, rfl, hbg, setRow_heap _ _ _ _ _ _ hg, hroom, hcm, ?_, ?_⟩⟩
        · rw [Nat.mul_one]; simp only [List.size_toArray, List.length_append, List.length_take, List.length_drop, Array.length_toList, hkl]; omega
        · rw [Nat.mul_one, htake]
          have e : (xs ++ ints (noughts k)).length = n + k := by rw [List.length_append, hol, hkl]
          rw [← e]
          exact List.take_left
      · exact ⟨rfl, rfl, rfl, by simp, fun j hj hne => setRow_other w g j _ (fun e => hne (by rw [e]; rfl))⟩
    · have hold : (Builtin.firstCells i0.size n (.slice (some ⟨g, 0, none⟩) n cap)).run Tryz.prog w.drew = .ok xs.toArray w.drew := run_firstCells_some (P := Tryz.prog) w.drew i0.size n ⟨g, 0, none⟩ n cap xs (by rw [hz1, hol, Nat.mul_one]) (by have := hown.cells (g := g) rfl; simpa using this)
      have hr := Lib.run_append_grow_zeros (P := Tryz.prog) w 22 3 ty 2 i0 _ .i64 .i64 Tryz.underlying22 Tryz.underlying3 hi0 hz0 (some ⟨g, 0, none⟩) n cap xs hold k hk (by rw [hz1]; decide) (by omega) (by omega) (by rw [hz2]; omega) (growslice_fits (by omega) (by rw [hz2]; omega))
      have hge := grownCap_ge w (n + k) cap 2
      have hcm2 : grownCap w (n + k) cap 2 ≤ maxLen := grownCap_le_maxLen w (n + k) cap 2 (by unfold maxLen; omega)
      refine ⟨_, _, hr, ?_, ⟨rfl, rfl, rfl, by simp, fun j hj _ => Below.heap_alloc w.drew _ j hj⟩⟩
      refine ⟨by rw [List.length_append, hol, hkl, Nat.mul_one], Or.inr ⟨w.heap.size, _, _, rfl, hbase, heap_alloc_new w.drew _, hge, hcm2, ?_, ?_⟩⟩
      · rw [Nat.mul_one, zeros_cells, zeros_cells]
        simp only [Array.size_append, List.size_toArray, hkl, hol, ints_len, noughts_len]
        omega
      · rw [Nat.mul_one, zeros_cells]
        simp only [Array.toList_append]
        have e : (xs ++ ints (noughts k)).length = n + k := by rw [List.length_append, hol, hkl]
        rw [← e]
        exact List.take_left

theorem wp_append_zeros {w : World} {ops : Array Oper} {rest : List Oper} {o : Oper} {a : Act} {Q : Exit → Act → World → Prop} (hgd : o.guard = none) (s x : Operand)
    (ho : o.op = .call { callee := .builtin .append, args := #[s, x], argTypes := #[22, 3] }) (base : Nat)
    (v : Value) (n : Nat) (xs : List Value) (hs : a.eval s = v) (hown : w.ownsRow base 2 1 v n xs) (h0 : 0 < n) (k : Nat) (hx : a.eval x = .int .i64 k) (hk : 0 < k) (hn : n + k ≤ 1000000000) (hbase : base ≤ w.heap.size)
    (h : ∀ v' w', w'.ownsRow base 2 1 v' (n + k) (xs ++ ints (noughts k)) → w.grownBy w' v.ownBlock → wpList Tryz.prog ops Q rest (a.put o.dst v') w') : wpList Tryz.prog ops Q (o :: rest) a w := by
  obtain ⟨v', w', hr, h2, h3⟩ := append_zeros_own w base v n xs o.type hown h0 k hk hn hbase
  refine wpList_plain hgd fun K hK => ?_
  unfold Oper.wp execOp
  simp only [ho, resolve, invoke, builtin, Sem.run_bind, Sem.run_pure, Result.andThen_ok, List.map_toArray, List.map_cons, List.map_nil, hs, hx, hr]
  exact hK _ _ (h v' w' h2 h3)

theorem row_lit (w : World) (x : Int) (t : TypeId) : RowIn (w.alloc (.cells #[.int .i64 x] t)) (.slice (some ⟨w.heap.size, 0, none⟩) 1 1) [x] := by
  refine ⟨_, 1, rfl, Nat.le_refl _, fun _ => ⟨w.heap.size, 0, rfl, by simp, fun j hj => ?_⟩⟩
  have : j = 0 := by simp at hj; omega
  subst this
  rw [cell_of_row _ _ _ _ _ _ (heap_alloc_new w _)]
  rfl

theorem own_form {w : World} {base n : Nat} {e : TypeId} {v : Value} {xs : List Value} (h : w.ownsRow base e 1 v n xs) (hn : 0 < n) : ∃ g c, v = .slice (some ⟨g, 0, none⟩) n c ∧ base ≤ g ∧ g < w.heap.size := by
  rcases h.2 with ⟨_, h0⟩ | ⟨g, cap, cur, hv, hb, hg, _⟩
  · omega
  · exact ⟨g, cap, hv, hb, (Array.getElem?_eq_some_iff.1 hg).1⟩
end Go.Proofs.YtnkaabgjfdbdoaaGreatDoor

namespace Go.Proofs.YtnkaabgjfdbdoaaGreatDoor
open Go.RowKit
open Go.Lib (hid)

theorem nin_calls (n a b : Int) (w : World) :
    Calls Tryz.prog 77 #[.int .i64 n, .int .i64 a, .int .i64 b] w fun e w' => e = .returned (.bool (decide (a ≤ n ∧ n ≤ b))) ∧ w' = w := by
  by_cases h1 : a ≤ n
  · have d1 : decide (n ≥ a) = true := decide_eq_true h1
    have e : decide (a ≤ n ∧ n ≤ b) = decide (n ≤ b) := by simp [h1]
    rw [e]
    clear e
    go_enter Tryz.func77, Tryz.ntmps77
    go_wp2
    go_ret
    exact ⟨rfl, rfl⟩
  · have d1 : decide (n ≥ a) = false := decide_eq_false h1
    have e : decide (a ≤ n ∧ n ≤ b) = false := by simp [h1]
    rw [e]
    clear e
    go_enter Tryz.func77, Tryz.ntmps77
    go_wp2
    go_ret
    exact ⟨rfl, rfl⟩

theorem l3Numbers_calls (l : List Int) (hn : l.length ≤ 1048576) (a : Value) (w : World) (ha : RowIn w a l) :
    Calls Tryz.prog 112 #[a] w fun e w' => e = .returned (.bool (numbB l)) ∧ w' = w := by
  obtain ⟨p, c, rfl, hc, hp⟩ := ha
  have HP := hid hp
  clear hp
  go_enter Tryz.func112, Tryz.ntmps112
  go_wp2
  go_loop [3] (fun iv => ∃ i : Nat, i ≤ l.length ∧ iv = .int .i64 i ∧ Hid (Numb (l.take i))) (fun iv => l.length - (RowKit.intOf iv).toNat)
  case atStart => exact ⟨0, Nat.zero_le _, rfl, hid (fun x hx => by simp at hx)⟩
  case round =>
    obtain ⟨i, hi, rfl, HN⟩ := hrel
    by_cases hlt : i < l.length
    · obtain ⟨g, o, rfl, hg, hcell⟩ := HP.out (fun h => by rw [h] at hlt; cases hlt)
      have hc1 := hcell i hlt
      have HS := hid (numb_succ l i hlt)
      have HI := hid (List.getElem_mem hlt)
      clear hcell
      generalize l[i] = x at *
      by_cases hx : 0 ≤ x ∧ x ≤ 1000000000
      · have hd : decide (0 ≤ x ∧ x ≤ 1000000000) = true := decide_eq_true hx
        have HX := hid hx
        clear hx
        go_wp2_with (go_at_call 77; refine (nin_calls _ _ _ _).mono ?_; rintro e w1 ⟨rfl, rfl⟩; rw [hd])
        go_round
        case rel => exact ⟨i + 1, by omega, by go_num, hid (HS.out.2 ⟨HN.out, HX.out.1, HX.out.2⟩)⟩
        case measure => simp [RowKit.intOf]; omega
      · have hd : decide (0 ≤ x ∧ x ≤ 1000000000) = false := decide_eq_false hx
        have HX := hid hx
        clear hx
        go_wp2_with (go_at_call 77; refine (nin_calls _ _ _ _).mono ?_; rintro e w1 ⟨rfl, rfl⟩; rw [hd])
        go_ret
        refine ⟨?_, rfl⟩
        rw [numbB_no (fun h => HX.out (h x HI.out))]
        rfl
    · have hie : i = l.length := by omega
      subst hie
      go_wp2
      go_ret
      refine ⟨?_, rfl⟩
      have := HN.out
      rw [List.take_of_length_le (Nat.le_refl _)] at this
      rw [numbB_iff.2 this]
      rfl

/-- All numbers lie in 0 .. a thousand million and one. -/
def Numc (l : List Int) : Prop := ∀ x ∈ l, 0 ≤ x ∧ x ≤ 1000000001

theorem numc_sum {l : List Int} (h : Numc l) : 0 ≤ l.sum ∧ l.sum ≤ l.length * 1000000001 := by
  induction l with
  | nil => simp
  | cons a l ih =>
    have h1 := h a (by simp)
    have h2 := ih (fun x hx => h x (by simp [hx]))
    simp only [List.sum_cons, List.length_cons]
    omega

set_option maxRecDepth 20000 in
theorem l3Check_calls (l : List Int) (S : Int) (hS : (l.drop 1).sum = S) (h1 : 1 ≤ l.length) (hn : l.length ≤ 1000) (hb : Numc (l.drop 1)) (a : Value) (w : World) (ha : RowIn w a l) :
    Calls Tryz.prog 114 #[a] w fun e w' => e = .returned (.int .i64 (1 + S % 999983)) ∧ w' = w := by
  obtain ⟨p, c, rfl, hc, hp⟩ := ha
  obtain ⟨g, o, rfl, hg, hcell⟩ := hp (fun h => by rw [h] at h1; cases h1)
  have HC := hid hcell
  have HB := hid hb
  have HSS := hid hS
  clear hp hcell hb hS
  go_enter Tryz.func114, Tryz.ntmps114
  go_wp2
  go_loop [3, 4] (fun sv iv => ∃ i : Nat, ∃ t : Int, 1 ≤ i ∧ i ≤ l.length ∧ iv = .int .i64 i ∧ sv = .int .i64 t ∧ 0 ≤ t ∧ t ≤ 2000000000000 ∧ Hid (t = ((l.drop 1).take (i - 1)).sum)) (fun _ iv => l.length - (RowKit.intOf iv).toNat)
  case atStart => exact ⟨1, 0, Nat.le_refl _, h1, rfl, rfl, by omega, by omega, hid (by simp)⟩
  case round =>
    obtain ⟨i, t, hi1, hi, rfl, rfl, ht0, ht1, HT⟩ := hrel
    by_cases hlt : i < l.length
    · have hc1 := HC.out i hlt
      have hd : i - 1 < (l.drop 1).length := by rw [List.length_drop]; omega
      have he : (l.drop 1)[i - 1] = l[i] := by rw [List.getElem_drop]; congr 1; omega
      have HS := hid (sum_take (l.drop 1) (i - 1) hd)
      rw [he, show i - 1 + 1 = i by omega] at HS
      have hs := numc_sum (l := (l.drop 1).take i) (fun x hx => HB.out x (List.mem_of_mem_take hx))
      rw [HS.out, List.length_take, List.length_drop] at hs
      have hbd : 0 ≤ t + l[i] ∧ t + l[i] ≤ 2000000000000 := by rw [HT.out]; omega
      clear hs hd he
      generalize l[i] = x at *
      go_wp2
      go_round
      case rel => exact ⟨i + 1, t + x, by omega, by omega, by go_num, rfl, by omega, by omega, hid (by rw [show i + 1 - 1 = i by omega, HS.out, HT.out])⟩
      case measure => simp [RowKit.intOf]; omega
    · have hie : i = l.length := by omega
      subst hie
      go_wp2
      go_ret
      refine ⟨?_, rfl⟩
      have := HT.out
      rw [List.take_of_length_le (by rw [List.length_drop]; omega)] at this
      rw [← HSS.out, ← this]
      rfl
end Go.Proofs.YtnkaabgjfdbdoaaGreatDoor

namespace Go.Proofs.YtnkaabgjfdbdoaaGreatDoor
open Go.RowKit
open Go.Lib (hid)

theorem row_in_own2 {w : World} {base n : Nat} {a : Value} {l : List Int} (hn : n = l.length) (h : w.ownsRow base 2 1 a n (ints l)) : RowIn w a l := by
  subst hn
  exact row_in_own h

theorem own_raise {w : World} {base base' n : Nat} {e : TypeId} {v : Value} {xs : List Value} (h : w.ownsRow base e 1 v n xs) (hb : base' ≤ base) : w.ownsRow base' e 1 v n xs :=
  ⟨h.1, h.2.imp id fun ⟨g, cap, cur, a1, a2, a3⟩ => ⟨g, cap, cur, a1, Nat.le_trans hb a2, a3⟩⟩

end Go.Proofs.YtnkaabgjfdbdoaaGreatDoor

namespace Go.Proofs.YtnkaabgjfdbdoaaGreatDoor
open Go.RowKit
open Go.Lib (hid)

/-- A row of integers that came in, wherever it lies. -/
def ArgInts (w : World) (a : Value) (l : List Int) : Prop :=
  ∃ p c, a = .slice p l.length c ∧ ∀ i (hi : i < l.length), ∃ ad : Addr, p = some ad ∧ ad.block < w.heap.size ∧ w.cell? (ad.add i) = some (.int .i64 l[i])

theorem ArgInts.on {w w' : World} {a : Value} {l : List Int} (h : ArgInts w a l) (hb : Below w.heap.size w w') : ArgInts w' a l := by
  obtain ⟨p, c, rfl, hp⟩ := h
  refine ⟨p, c, rfl, fun i hi => ?_⟩
  obtain ⟨ad, rfl, hl, hc⟩ := hp i hi
  exact ⟨ad, rfl, Nat.lt_of_lt_of_le hl hb.size, by rw [hb.cell (p := ad.add i) (by rw [add_block]; exact hl)]; exact hc⟩

theorem RowIn.arg {w : World} {a : Value} {l : List Int} (h : RowIn w a l) : ArgInts w a l := by
  obtain ⟨p, c, rfl, _, hp⟩ := h
  refine ⟨p, c, rfl, fun i hi => ?_⟩
  obtain ⟨g, o, rfl, hg, hcell⟩ := hp (fun h => by rw [h] at hi; cases hi)
  exact ⟨⟨g, o, none⟩, rfl, hg, by rw [Addr.add_mid]; exact hcell i hi⟩

/-- The copy while it is being filled. -/
def filling (l : List Int) (i : Nat) : List Int := l.take i ++ noughts (l.length - i)

theorem filling_len (l : List Int) (i : Nat) (h : i ≤ l.length) : (filling l i).length = l.length := by unfold filling; rw [List.length_append, List.length_take, noughts_len]; omega

theorem filling_all (l : List Int) : filling l l.length = l := by unfold filling; rw [List.take_of_length_le (Nat.le_refl _), Nat.sub_self]; simp [noughts]

theorem filling_set (l : List Int) (i : Nat) (h : i < l.length) : (filling l i).set i l[i] = filling l (i + 1) := by
  unfold filling
  have h1 : (l.take i).length = i := by rw [List.length_take]; omega
  rw [List.set_append, if_neg (by omega), h1, Nat.sub_self, show l.length - i = (l.length - (i + 1)) + 1 by omega]
  unfold noughts
  rw [List.replicate_succ, List.set_cons_zero, List.take_succ_eq_append_getElem h, List.append_assoc, List.singleton_append]

set_option maxRecDepth 20000 in
set_option maxHeartbeats 1000000 in
theorem to_ints (l : List Int) (hn : l.length ≤ 1048576) (a : Value) (w : World) (ha : ArgInts w a l) :
    Calls Tryz.prog 144 #[a] w fun e w' => e = .returned (.slice (some ⟨w.heap.size, 0, none⟩) l.length l.length) ∧ Below w.heap.size w w' ∧ w'.ownsRow w.heap.size 2 1 (.slice (some ⟨w.heap.size, 0, none⟩) l.length l.length) l.length (ints l) := by
  obtain ⟨p, c, rfl, hp⟩ := ha
  have HP := hid hp
  clear hp
  obtain ⟨i0, hi0, hz0, hz1, hz2⟩ := info_parts intInfo
  obtain ⟨wm, hrun, hown, hgr⟩ := run_make_full (P := Tryz.prog) w w.heap.size 22 2 i0 _ 1 Tryz.underlying22 hi0 hz0 hz1 .i64 .i64 l.length (by rw [hz2]; omega) (by unfold maxLen; omega) (Nat.le_refl _)
  have hcells : (madeCells (Value.int .i64 0).cells (l.length * 1)).toList = ints (filling l 0) := by
    rw [Nat.mul_one]
    show (madeCells #[Value.int .i64 0] l.length).toList = _
    rw [toList_madeCells_one]
    simp [ints, filling, noughts]
  rw [hcells] at hown
  have hbm : Below w.heap.size w wm := ⟨hgr.os, hgr.tape, hgr.output, hgr.size, fun k hk => hgr.block k hk (by simp)⟩
  have HB := hid hbm
  have HO := hid hown
  have hzm := hgr.size
  clear hown hcells hgr hi0 hz0 hz1 hz2 hbm
  go_enter Tryz.func144, Tryz.ntmps144
  go_wp2
  go_loopw [4] (fun iv wr => ∃ i : Nat, i ≤ l.length ∧ iv = .int .i64 i ∧ Below w.heap.size w wr ∧ wr.ownsRow w.heap.size 2 1 (.slice (some ⟨w.heap.size, 0, none⟩) l.length l.length) l.length (ints (filling l i))) (fun iv _ => l.length - (RowKit.intOf iv).toNat)
  case atStart => exact ⟨0, Nat.zero_le _, rfl, HB.out, HO.out⟩
  case round =>
    obtain ⟨i, hi, rfl, hbel, hown⟩ := hrel
    have HB2 := hid hbel
    have HO2 := hid hown
    by_cases hlt : i < l.length
    · obtain ⟨ad, rfl, hbl, hc⟩ := HP.out i hlt
      have hc1 : wr.cell? (ad.add i) = some (.int .i64 l[i]) := by rw [hbel.cell (p := ad.add i) (by rw [add_block]; exact hbl)]; exact hc
      have hc2 := hown.cellAt i (by omega)
      rw [ints_at _ i (by rw [filling_len l i hi]; exact hlt)] at hc2
      have hf2 := hown.frozenAt i
      have HF := hid (hown.stored i (.int .i64 l[i])).1
      rw [ints_set, filling_set l i hlt] at HF
      clear hbel hown hc hrun
      generalize l[i] = x at *
      generalize (filling l i)[i]'_ = y at hc2
      go_wp2
      go_roundw
      case rel => exact ⟨i + 1, by omega, by go_num, HB2.out.setCell (p := ⟨w.heap.size, i, none⟩) (Nat.le_refl _) _, HF.out⟩
      case measure => simp [RowKit.intOf]; omega
    · have hie : i = l.length := by omega
      subst hie
      clear hbel hown hrun
      go_wp2
      go_ret
      exact ⟨rfl, HB2.out, by have := HO2.out; rw [filling_all] at this; exact this⟩

theorem eq_ints (l : List Int) (hn : l.length ≤ 1000000000) (a b : Value) (w : World) (ha : RowIn w a l) (hb : RowIn w b l) :
    Calls Tryz.prog 156 #[a, b] w fun e w' => e = .returned (.bool true) ∧ Below w.heap.size w w' := by
  obtain ⟨p, c, rfl, _, hp⟩ := ha
  obtain ⟨q, e, rfl, _, hq⟩ := hb
  have HP := hid hp
  have HQ := hid hq
  clear hp hq
  go_enter Tryz.func156, Tryz.ntmps156
  go_wp2
  go_loopw [5] (fun iv wr => ∃ i : Nat, i ≤ l.length ∧ iv = .int .i64 i ∧ Below w.heap.size w wr) (fun iv _ => l.length - (RowKit.intOf iv).toNat)
  case atStart => exact ⟨0, Nat.zero_le _, rfl, Below.refl _ _⟩
  case round =>
    obtain ⟨i, hi, rfl, hbel⟩ := hrel
    by_cases hlt : i < l.length
    · have hne : l ≠ [] := fun h => by rw [h] at hlt; cases hlt
      obtain ⟨g, o, rfl, hg, hc⟩ := HP.out hne
      obtain ⟨g2, o2, rfl, hg2, hc2⟩ := HQ.out hne
      have hc1 := hc i hlt
      have hc3 := hc2 i hlt
      rw [← hbel.cell (p := ⟨g, o + i, none⟩) hg] at hc1
      rw [← hbel.cell (p := ⟨g2, o2 + i, none⟩) hg2] at hc3
      clear hc hc2
      generalize l[i] = x at *
      have b1 : (0 : Int) ≤ (i : Int) := by omega
      have b2 : (i : Int) < (l.length : Int) := by omega
      go_wp2
      go_quiet (fail)
      go_wp2
      go_roundw
      case rel => exact ⟨i + 1, by omega, by go_num, drewN_below hbel _⟩
      case measure => simp [RowKit.intOf]; omega
    · have hie : i = l.length := by omega
      subst hie
      go_wp2
      go_ret
      exact ⟨rfl, hbel⟩

/-- The marks from k on, so many. -/
def imarks (k n : Nat) : List Int := (List.range n).map fun i => ((k + i : Nat) : Int)

theorem imarks_len (k n : Nat) : (imarks k n).length = n := by simp [imarks]

theorem imarks_at (k n i : Nat) (h : i < n) : (imarks k n)[i]'(by rw [imarks_len]; exact h) = ((k + i : Nat) : Int) := by simp [imarks]

theorem held_ints (k n : Nat) (hn : k + n ≤ 1000000000) (a : Value) (w : World) (ha : RowIn w a (imarks k n)) :
    Calls Tryz.prog 166 #[a, .int .i64 k] w fun e w' => e = .returned (.int .i64 ((k + n : Nat) : Int)) ∧ Below w.heap.size w w' := by
  obtain ⟨p, c, rfl, _, hp⟩ := ha
  rw [imarks_len]
  have HP := hid hp
  clear hp
  go_enter Tryz.func166, Tryz.ntmps166
  go_wp2
  go_loopw [1, 5] (fun kv iv wr => ∃ i : Nat, i ≤ n ∧ iv = .int .i64 i ∧ kv = .int .i64 ((k + i : Nat) : Int) ∧ wr = w) (fun _ iv _ => n - (RowKit.intOf iv).toNat)
  case atStart => exact ⟨0, Nat.zero_le _, rfl, rfl, rfl⟩
  case round =>
    obtain ⟨i, hi, rfl, rfl, rfl⟩ := hrel
    by_cases hlt : i < n
    · have hne : imarks k n ≠ [] := fun h => by
        have := imarks_len k n
        rw [h] at this
        simp at this
        omega
      obtain ⟨g, o, rfl, hg, hc⟩ := HP.out hne
      have hc1 := hc i (by rw [imarks_len]; exact hlt)
      rw [imarks_at k n i hlt] at hc1
      clear hc
      go_wp2
      go_roundw
      case rel => exact ⟨i + 1, by omega, by go_num, by go_num, trivial⟩
      case measure => simp [RowKit.intOf]; omega
    · have hie : i = n := by omega
      subst hie
      go_wp2
      go_ret
      exact ⟨rfl, Below.refl _ _⟩

/-- The row while it is being marked. -/
def imixed (l : List Int) (k i : Nat) : List Int := imarks k i ++ l.drop i

theorem imixed_len (l : List Int) (k i : Nat) (h : i ≤ l.length) : (imixed l k i).length = l.length := by unfold imixed; rw [List.length_append, imarks_len, List.length_drop]; omega

theorem imixed_set (l : List Int) (k i : Nat) (h : i < l.length) : (imixed l k i).set i ((k + i : Nat) : Int) = imixed l k (i + 1) := by
  unfold imixed
  rw [List.set_append, if_neg (by rw [imarks_len]; omega), imarks_len, Nat.sub_self, List.drop_eq_getElem_cons h, List.set_cons_zero]
  unfold imarks
  rw [List.range_succ, List.map_append, List.map_singleton, List.append_assoc, List.singleton_append]

theorem imixed_all (l : List Int) (k : Nat) : imixed l k l.length = imarks k l.length := by unfold imixed; rw [List.drop_of_length_le (Nat.le_refl _), List.append_nil]

set_option maxHeartbeats 1000000 in
theorem mark_ints (l : List Int) (k : Nat) (hn : k + l.length ≤ 1000000000) (base : Nat) (a : Value) (w : World) (ha : w.ownsRow base 2 1 a l.length (ints l)) :
    Calls Tryz.prog 165 #[a, .int .i64 k] w fun e w' => e = .returned (.int .i64 ((k + l.length : Nat) : Int)) ∧ w.grownBy w' a.ownBlock ∧ w'.ownsRow base 2 1 a l.length (ints (imarks k l.length)) := by
  by_cases hz : l.length = 0
  · have hl : l = [] := List.eq_nil_of_length_eq_zero hz
    obtain ⟨p, c, rfl, _⟩ := row_in_own ha
    have HA := hid ha
    clear ha
    go_enter Tryz.func165, Tryz.ntmps165
    go_wp2
    go_loopw [1, 5] (fun kv iv wr => iv = .int .i64 0 ∧ kv = .int .i64 k ∧ wr = w) (fun _ iv _ => 0)
    case atStart => exact ⟨rfl, rfl, rfl⟩
    case round =>
      obtain ⟨rfl, rfl, rfl⟩ := hrel
      go_wp2
      go_ret
      refine ⟨by rw [hz]; rfl, grown_refl _ _, ?_⟩
      subst hl
      exact HA.out
  · obtain ⟨g, c, rfl, hbg, hgl0⟩ := own_form ha (by omega)
    have HA := hid ha
    clear ha
    go_enter Tryz.func165, Tryz.ntmps165
    go_wp2
    go_loopw [1, 5] (fun kv iv wr => ∃ i : Nat, i ≤ l.length ∧ iv = .int .i64 i ∧ kv = .int .i64 ((k + i : Nat) : Int) ∧ w.grownBy wr (some g) ∧ wr.ownsRow base 2 1 (.slice (some ⟨g, 0, none⟩) l.length c) l.length (ints (imixed l k i))) (fun _ iv _ => l.length - (RowKit.intOf iv).toNat)
    case atStart => exact ⟨0, Nat.zero_le _, rfl, rfl, grown_refl _ _, by have := HA.out; simpa [imixed, imarks] using this⟩
    case round =>
      obtain ⟨i, hi, rfl, rfl, hgr, hown⟩ := hrel
      have HG := hid hgr
      by_cases hlt : i < l.length
      · have hc1 := hown.cellAt i (by omega)
        rw [ints_at _ i (by rw [imixed_len l k i hi]; exact hlt)] at hc1
        have hf1 := hown.frozenAt i
        have HS := hid (hown.stored i (.int .i64 ((k + i : Nat) : Int)))
        rw [ints_set, imixed_set l k i hlt] at HS
        clear hown hgr
        generalize (imixed l k i)[i]'_ = y at hc1
        go_wp2
        go_roundw
        case rel => exact ⟨i + 1, by omega, by go_num, by go_num, grown_trans HG.out HS.out.2, HS.out.1⟩
        case measure => simp [RowKit.intOf]; omega
      · have hie : i = l.length := by omega
        subst hie
        have HO := hid hown
        clear hown hgr
        go_wp2
        go_ret
        exact ⟨rfl, HG.out, by have := HO.out; rw [imixed_all] at this; exact this⟩
end Go.Proofs.YtnkaabgjfdbdoaaGreatDoor

namespace Go.Proofs.YtnkaabgjfdbdoaaGreatDoor
open Go.RowKit
open Go.Lib (hid)

theorem eq_nv (s : Int) (l : List Int) (hn : l.length ≤ 1000000000) (a b : Value) (w : World) (ha : RowIn w a l) (hb : RowIn w b l) :
    Calls Tryz.prog 106 #[.agg #[.int .i64 s, a], .agg #[.int .i64 s, b]] w fun e w' => e = .returned (.bool true) ∧ Below w.heap.size w w' := by
  have HA := hid ha
  have HB := hid hb
  obtain ⟨p, c, rfl, _, _⟩ := ha
  obtain ⟨q, d, rfl, _, _⟩ := hb
  have HW : Hid (Below w.heap.size w ((w.alloc (.cells #[.int .i64 s, .slice p l.length c] 39)).alloc (.cells #[.int .i64 s, .slice q l.length d] 39))) := hid (((Below.refl _ _).alloc (Nat.le_refl _) _).alloc (by simp) _)
  go_enter Tryz.func106, Tryz.ntmps106
  go_wp2_with (go_at_call 156; refine (eq_ints l hn _ _ _ (HA.out.on HW.out) (HB.out.on HW.out)).mono ?_; rintro e w1 ⟨rfl, hb1⟩)
  go_ret
  exact ⟨rfl, HW.out.trans (hb1.mono HW.out.size)⟩

theorem held_nv (s : Int) (k n : Nat) (hn : k + n ≤ 1000000000) (a : Value) (w : World) (ha : RowIn w a (imarks k n)) :
    Calls Tryz.prog 128 #[.agg #[.int .i64 s, a], .int .i64 k] w fun e w' => e = .returned (.int .i64 ((k + n : Nat) : Int)) ∧ Below w.heap.size w w' := by
  have HA := hid ha
  obtain ⟨p, c, rfl, _, _⟩ := ha
  have HW : Hid (Below w.heap.size w (w.alloc (.cells #[.int .i64 s, .slice p (imarks k n).length c] 39))) := hid ((Below.refl _ _).alloc (Nat.le_refl _) _)
  go_enter Tryz.func128, Tryz.ntmps128
  go_wp2_with (go_at_call 166; refine (held_ints k n hn _ _ (HA.out.on HW.out)).mono ?_; rintro e w1 ⟨rfl, hb1⟩)
  go_ret
  exact ⟨rfl, HW.out.trans (hb1.mono HW.out.size)⟩

theorem mark_nv (s : Int) (l : List Int) (k : Nat) (hn : k + l.length ≤ 1000000000) (base : Nat) (a : Value) (w : World) (ha : w.ownsRow base 2 1 a l.length (ints l)) :
    Calls Tryz.prog 124 #[.agg #[.int .i64 s, a], .int .i64 k] w fun e w' => e = .returned (.int .i64 ((k + l.length : Nat) : Int)) ∧ w.grownBy w' a.ownBlock ∧ w'.ownsRow base 2 1 a l.length (ints (imarks k l.length)) := by
  obtain ⟨p, c, rfl, _, _⟩ := row_in_own ha
  have HW : Hid (Below w.heap.size w (w.alloc (.cells #[.int .i64 s, .slice p l.length c] 39))) := hid ((Below.refl _ _).alloc (Nat.le_refl _) _)
  have HA := hid (own_below ha HW.out)
  clear ha
  go_enter Tryz.func124, Tryz.ntmps124
  go_wp2_with (go_at_call 165; refine (mark_ints l k hn base _ _ HA.out).mono ?_; rintro e w1 ⟨rfl, hg1, ho1⟩; have HG := hid hg1; have HO := hid ho1; clear hg1 ho1)
  go_ret
  exact ⟨rfl, grown_trans (grown_below HW.out) HG.out, HO.out⟩

theorem var_cells {W : World} {b : Nat} {x y : Value} {t : TypeId} {fr : Nat × Nat} (h : W.heap[b]? = some (.cells #[x, y] t fr)) : W.cell? ⟨b, 0, none⟩ = some x ∧ W.cell? ⟨b, 1, none⟩ = some y :=
  ⟨(cell_of_row W b 0 _ _ _ h).trans rfl, (cell_of_row W b 1 _ _ _ h).trans rfl⟩
end Go.Proofs.YtnkaabgjfdbdoaaGreatDoor

namespace Go.Proofs.YtnkaabgjfdbdoaaGreatDoor
open Go.RowKit
open Go.Lib (hid)

theorem sz_ints (l : List Int) (hm : l.length ≤ maxLen) (k : Nat) (hk : k ≤ 1048576) (a : Value) (w : World) (ha : ArgInts w a l) :
    Calls Tryz.prog 141 #[a, .int .i64 k] w fun e w' => e = .returned (.int .i64 (if l.length ≤ k then ((k - l.length : Nat) : Int) else -1)) ∧ Below w.heap.size w w' := by
  obtain ⟨p, c, rfl, _⟩ := ha
  unfold maxLen at hm
  by_cases h : l.length ≤ k
  · rw [if_pos h]
    have e1 : IntKind.i64.wrap ((k : Int) - (l.length : Int)) = ((k - l.length : Nat) : Int) := by rw [IntKind.wrap_i64]; omega
    have e2 : ¬ ((k - l.length : Nat) : Int) < 0 := by omega
    generalize ((k - l.length : Nat) : Int) = z at *
    go_enter Tryz.func141, Tryz.ntmps141
    go_wp2
    go_ret
    exact ⟨rfl, Below.refl _ _⟩
  · rw [if_neg h]
    obtain ⟨z, hz⟩ : ∃ z : Int, z = (k : Int) - (l.length : Int) := ⟨_, rfl⟩
    have e1 : IntKind.i64.wrap ((k : Int) - (l.length : Int)) = z := by rw [IntKind.wrap_i64]; omega
    have e2 : z < 0 := by omega
    go_enter Tryz.func141, Tryz.ntmps141
    go_wp2
    go_ret
    exact ⟨rfl, Below.refl _ _⟩

theorem sz_nv (s : Int) (l : List Int) (hm : l.length ≤ maxLen) (k : Nat) (hk : k ≤ 1048576) (a : Value) (w : World) (ha : ArgInts w a l) :
    Calls Tryz.prog 80 #[.agg #[.int .i64 s, a], .int .i64 k] w fun e w' => e = .returned (.int .i64 (if l.length ≤ k then ((k - l.length : Nat) : Int) else -1)) ∧ Below w.heap.size w w' := by
  have HA := hid ha
  have CZ := hid (fun a W (hW : ArgInts W a l) => sz_ints l hm k hk a W hW)
  obtain ⟨p, c, rfl, _⟩ := ha
  have HW : Hid (Below w.heap.size w (w.alloc (.cells #[.int .i64 s, .slice p l.length c] 24))) := hid ((Below.refl _ _).alloc (Nat.le_refl _) _)
  by_cases h : l.length ≤ k
  · rw [if_pos h] at CZ ⊢
    have e2 : ¬ ((k - l.length : Nat) : Int) < 0 := by omega
    generalize ((k - l.length : Nat) : Int) = z at *
    go_enter Tryz.func80, Tryz.ntmps80
    go_wp2_with (go_at_call 141; refine (CZ.out _ _ (HA.out.on HW.out)).mono ?_; rintro e w1 ⟨rfl, hb1⟩)
    go_ret
    exact ⟨rfl, HW.out.trans (hb1.mono HW.out.size)⟩
  · rw [if_neg h] at CZ ⊢
    go_enter Tryz.func80, Tryz.ntmps80
    go_wp2_with (go_at_call 141; refine (CZ.out _ _ (HA.out.on HW.out)).mono ?_; rintro e w1 ⟨rfl, hb1⟩)
    go_ret
    exact ⟨rfl, HW.out.trans (hb1.mono HW.out.size)⟩

/-- A row of one's own stands while the blocks from its base on stand. -/
theorem own_at {w w' : World} {base size n : Nat} {e : TypeId} {v : Value} {xs : List Value} (h : w.ownsRow base e size v n xs) (hk : ∀ k, base ≤ k → w'.heap[k]? = w.heap[k]?) : w'.ownsRow base e size v n xs := by
  refine ⟨h.1, ?_⟩
  rcases h.2 with hn | ⟨g, cap, cur, rfl, hb, hgg, rest⟩
  · exact .inl hn
  · exact .inr ⟨g, cap, cur, rfl, hb, by rw [hk g hb]; exact hgg, rest⟩

theorem var_thaw {W : World} {b : Nat} {x y : Value} {t : TypeId} (h : W.heap[b]? = some (.cells #[x, y] t)) (o : Nat) : W.frozen? ⟨b, o, none⟩ = false := by simp [World.frozen?, h]

set_option maxRecDepth 20000 in
set_option maxHeartbeats 1000000 in
theorem to_nv (s : Int) (l : List Int) (hn : l.length ≤ 1048576) (a : Value) (w : World) (ha : ArgInts w a l) :
    Calls Tryz.prog 93 #[.agg #[.int .i64 s, a]] w fun e w' => ∃ sv, e = .returned (.agg #[.int .i64 s, sv]) ∧ Below w.heap.size w w' ∧ w'.ownsRow w.heap.size 2 1 sv l.length (ints l) := by
  have HA := hid ha
  obtain ⟨p, c, rfl, _⟩ := ha
  have HW : Hid (Below w.heap.size w (((w.alloc (.cells #[.int .i64 s, .slice p l.length c] 24)).alloc (.cells #[.int .i64 0, .slice none 0 0] 39)).alloc (.cells #[.int .i64 s, .slice none 0 0] 39))) := hid ((((Below.refl _ _).alloc (Nat.le_refl _) _).alloc (by simp) _).alloc (by simp; omega) _)
  go_enter Tryz.func93, Tryz.ntmps93
  go_wp2_with (go_at_call 144; refine (to_ints l hn _ _ (HA.out.on HW.out)).mono ?_; rintro e w1 ⟨rfl, hb1, ho1⟩; refine Hid.out ?_)
  refine hid ?_
  have hz0 : (((w.alloc (.cells #[.int .i64 s, .slice p l.length c] 24)).alloc (.cells #[.int .i64 0, .slice none 0 0] 39)).alloc (.cells #[.int .i64 s, .slice none 0 0] 39)).heap.size = w.heap.size + 3 := by simp
  have HX1 : Hid (w1.heap[w.heap.size + 2]? = some (.cells #[.int .i64 s, .slice none 0 0] 39)) := hid ((hb1.block _ (by omega)).trans (by have h := heap_alloc_new ((w.alloc (.cells #[.int .i64 s, .slice p l.length c] 24)).alloc (.cells #[.int .i64 0, .slice none 0 0] 39)) (.cells #[.int .i64 s, .slice none 0 0] 39); simpa using h))
  have HX2 : Hid (w1.heap[w.heap.size + 1]? = some (.cells #[.int .i64 0, .slice none 0 0] 39)) := hid ((hb1.block _ (by omega)).trans ((((Below.refl _ _).alloc (Nat.le_refl _) _).block _ (by simp)).trans (by have h := heap_alloc_new (w.alloc (.cells #[.int .i64 s, .slice p l.length c] 24)) (.cells #[.int .i64 0, .slice none 0 0] 39); simpa using h)))
  have hz1 := hb1.size
  rw [hz0] at hz1
  have HB1 := hid (HW.out.trans (hb1.mono HW.out.size))
  rw [hz0] at ho1
  have HO1 := hid ho1
  obtain ⟨k0, k1⟩ := var_cells HX1.out
  obtain ⟨k2, k3⟩ := var_cells HX2.out
  have f0 := var_thaw HX1.out 0
  have f1 := var_thaw HX1.out 1
  have f2 := var_thaw HX2.out 0
  have f3 := var_thaw HX2.out 1
  clear hb1 ho1
  try simp only [World.size_alloc]
  try simp only [Nat.add_assoc, Nat.reduceAdd]
  clear hz0
  go_wp2
  refine bodyPost_ret (v := .agg #[.int .i64 s, .slice (some ⟨w.heap.size + 3, 0, none⟩) l.length l.length]) (by simp [results, Tryz.results93, go_sem, k2, k3]; try rfl) rfl ?_
  refine ⟨_, rfl, ((HB1.out.setCell (p := ⟨w.heap.size + 2, 1, none⟩) (by simp) _).setCell (p := ⟨w.heap.size + 1, 0, none⟩) (by simp) _).setCell (p := ⟨w.heap.size + 1, 1, none⟩) (by simp) _, ?_⟩
  refine own_raise (own_at HO1.out (fun k hk => ?_)) (by omega)
  rw [Below.heap_setCell _ _ _ k (by show k ≠ w.heap.size + 1; omega), Below.heap_setCell _ _ _ k (by show k ≠ w.heap.size + 1; omega), Below.heap_setCell _ _ _ k (by show k ≠ w.heap.size + 2; omega)]
end Go.Proofs.YtnkaabgjfdbdoaaGreatDoor
