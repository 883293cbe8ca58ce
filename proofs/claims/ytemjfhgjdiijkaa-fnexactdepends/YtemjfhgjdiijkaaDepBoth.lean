/- Depends, the specification's and the program's. -/
import Derived.Test.YtemjfhgjdiijkaaIntKit
import Derived.Test.YtemjfhgjdiijkaaFlatRow
import Derived.Test.YtemjfhgjdiijkaaRowEvent
namespace Go.Proofs.Ytemjfhgjdiijkaa
open Go.RowKit
open Go.Lib (hid)

/-- The places whose Registers a mask chooses, among the first so many. -/
def depTo (m : Nat) (es : List EventD) : Nat → List Int
  | 0 => []
  | i + 1 => depTo m es i ++ if m.testBit (es.getD i zEvent).x0.toNat then [(i : Int)] else []

theorem depTo_yes {m : Nat} {es : List EventD} {i : Nat} (h : m.testBit (es.getD i zEvent).x0.toNat = true) : depTo m es (i + 1) = depTo m es i ++ [(i : Int)] := by
  show depTo m es i ++ _ = _
  rw [if_pos h]

theorem depTo_no {m : Nat} {es : List EventD} {i : Nat} (h : m.testBit (es.getD i zEvent).x0.toNat = false) : depTo m es (i + 1) = depTo m es i := by
  show depTo m es i ++ _ = _
  rw [if_neg (by rw [h]; decide), List.append_nil]

theorem depTo_few (m : Nat) (es : List EventD) (i : Nat) : (depTo m es i).length ≤ i := by
  induction i with
  | zero => exact Nat.le_refl _
  | succ i ih =>
    show (depTo m es i ++ _).length ≤ _
    rw [List.length_append]
    split <;> simp <;> omega

/-- Each Register is one. -/
def regsB (es : List EventD) : Bool := es.all fun e => decide (0 ≤ e.x0 ∧ e.x0 ≤ 7)

/-- What Depends answers. -/
def depOut (es : List EventD) (mask : Int) : List Int × Bool :=
  if es.length ≤ 60 ∧ (1 ≤ mask ∧ mask ≤ 255) ∧ regsB es = true then (depTo mask.toNat es es.length, true) else ([], false)

def DepPost (es : List EventD) (mask : Int) (w : World) (e : Ending) (w' : World) : Prop :=
  ∃ sv, e = .returned (.tuple #[sv, .bool (depOut es mask).2]) ∧ Below w.heap.size w w' ∧ w'.ownsRow w.heap.size 2 1 sv (depOut es mask).1.length (ints (depOut es mask).1)

theorem dbit_shr (m i : Nat) (hm : m ≤ 255) (hi : i < 8) : (bits BinOp.and IntKind.i64 ((m : Int) / 2 ^ i) 1 == 1) = m.testBit i := by
  have h : ∀ m : Fin 256, ∀ i : Fin 8, (bits BinOp.and IntKind.i64 (((m : Nat) : Int) / 2 ^ (i : Nat)) 1 == 1) = (m : Nat).testBit i := by decide +kernel
  exact h ⟨m, by omega⟩ ⟨i, hi⟩

theorem dbit_and (m i : Nat) (hm : m ≤ 255) (hi : i < 8) : (bits BinOp.and IntKind.i64 (m : Int) (wrap64 (2 ^ i)) != 0) = m.testBit i := by
  have h : ∀ m : Fin 256, ∀ i : Fin 8, (bits BinOp.and IntKind.i64 ((m : Nat) : Int) (wrap64 (2 ^ (i : Nat))) != 0) = (m : Nat).testBit i := by decide +kernel
  exact h ⟨m, by omega⟩ ⟨i, hi⟩

theorem in_anyD (n a b : Int) (w : World) :
    Calls Try.prog 14 #[.int .i64 n, .int .i64 a, .int .i64 b] w fun e w' => e = .returned (.bool (decide (a ≤ n ∧ n ≤ b))) ∧ w' = w := by
  by_cases h0 : a ≤ n
  · by_cases h1 : n ≤ b
    · go_enter Try.func14, Try.ntmps14
      go_wp2
      go_ret
      exact ⟨by simp [h0, h1], rfl⟩
    · go_enter Try.func14, Try.ntmps14
      go_wp2
      go_ret
      exact ⟨by simp [h1], rfl⟩
  · go_enter Try.func14, Try.ntmps14
    go_wp2
    go_ret
    exact ⟨by simp; omega, rfl⟩

theorem regs_bad {es : List EventD} {i : Nat} (hi : i < es.length) (h : ¬ (0 ≤ es[i].x0 ∧ es[i].x0 ≤ 7)) : regsB es = false := by
  cases hr : regsB es with
  | false => rfl
  | true =>
    unfold regsB at hr
    have := List.all_eq_true.1 hr es[i] (List.getElem_mem hi)
    rw [decide_eq_true_iff] at this
    exact absurd this h

theorem regs_all {es : List EventD} (h : ∀ j (hj : j < es.length), 0 ≤ es[j].x0 ∧ es[j].x0 ≤ 7) : regsB es = true := by
  unfold regsB
  rw [List.all_eq_true]
  intro e he
  obtain ⟨j, hj, rfl⟩ := List.mem_iff_getElem.1 he
  rw [decide_eq_true_iff]
  exact h j hj

theorem dep_no {es : List EventD} {mask : Int} (h : ¬ (es.length ≤ 60 ∧ (1 ≤ mask ∧ mask ≤ 255) ∧ regsB es = true)) : depOut es mask = ([], false) := by
  unfold depOut
  rw [if_neg h]

theorem none_ints (w : World) : (w.alloc (.cells #[] 2)).ownsRow w.heap.size 2 1 (.slice (some ⟨w.heap.size, 0, none⟩) 0 0) 0 [] := World.ownsRow_made w #[] 0 (Nat.le_refl _) (Nat.zero_le _) rfl

set_option maxRecDepth 20000 in
set_option maxHeartbeats 2000000 in
theorem dep_spec (es : List EventD) (hn : es.length ≤ 1048576) (mask : Int) (a : Value) (w : World) (ha : FRow encEvent 2 w a es) :
    Calls Try.prog 5 #[a, .int .i64 mask] w (DepPost es mask w) := by
  unfold DepPost
  have HA := hid ha
  obtain ⟨p, c, rfl, _⟩ := ha
  have CI := hid (fun W => in_anyD mask 1 255 W)
  have HB0 : Hid (Below w.heap.size w (w.alloc (.cells #[] 2))) := hid ((Below.refl _ _).alloc (Nat.le_refl _) _)
  have HO0 : Hid ((w.alloc (.cells #[] 2)).ownsRow w.heap.size 2 1 (.slice (some ⟨w.heap.size, 0, none⟩) 0 0) 0 []) := hid (none_ints w)
  by_cases h60 : es.length ≤ 60
  · by_cases hm : 1 ≤ mask ∧ mask ≤ 255
    · rw [decide_eq_true hm] at CI
      obtain ⟨m, rfl⟩ := Int.eq_ofNat_of_zero_le (show 0 ≤ mask by omega)
      have hm2 : m ≤ 255 := by omega
      have HM := hid hm
      clear hm
      go_enter Try.func5, Try.ntmps5
      go_wp2_with (go_at_call 14; refine (CI.out _).mono ?_; rintro e w2 ⟨rfl, e2⟩; rw [e2]; clear e2 w2)
      go_loopw [6, 7] (fun out iv wr => ∃ i : Nat, i ≤ es.length ∧ iv = .int .i64 i ∧ Below w.heap.size w wr ∧ Hid (wr.ownsRow w.heap.size 2 1 out (depTo m es i).length (ints (depTo m es i))) ∧ Hid (∀ j (hj : j < es.length), j < i → 0 ≤ es[j].x0 ∧ es[j].x0 ≤ 7)) (fun _ iv _ => es.length - (RowKit.intOf iv).toNat)
      case atStart => exact ⟨0, Nat.zero_le _, rfl, HB0.out, HO0, hid (fun j _ h => absurd h (Nat.not_lt_zero _))⟩
      case round =>
        obtain ⟨i, hi, rfl, hbel, HO, HR⟩ := hrel
        have HB := hid hbel
        by_cases hlt : i < es.length
        · have hne : es ≠ [] := fun h => by rw [h] at hlt; cases hlt
          obtain ⟨p', c', hv, _, hp⟩ := HA.out
          obtain ⟨rfl, rfl⟩ : p = p' ∧ c = c' := by injection hv with h1 h2 h3; exact ⟨h1, by omega⟩
          obtain ⟨g, o, rfl, hg, hc⟩ := hp hne
          clear hv hp
          have b1 : (0 : Int) ≤ (i : Int) := by omega
          have b2 : (i : Int) < (es.length : Int) := by omega
          have k0 : ∀ W : World, Below wr.heap.size wr W → W.cell? ⟨g, o + i * 2, none⟩ = some (.int .i64 es[i].x0) := fun W hW => (hW.cell (p := ⟨g, o + i * 2, none⟩) (Nat.lt_of_lt_of_le hg hbel.size)).trans ((hbel.cell (p := ⟨g, o + i * 2, none⟩) hg).trans (hc i hlt 0 (by decide)))
          have k1 := k0 wr (Below.refl _ _)
          have CR := hid (fun W => in_anyD es[i].x0 0 7 W)
          clear hc k0
          by_cases hx : 0 ≤ es[i].x0 ∧ es[i].x0 ≤ 7
          · rw [decide_eq_true hx] at CR
            have HX := hid hx
            have HD : Hid ((es.getD i zEvent).x0 = es[i].x0) := hid (by simp [List.getD, hlt])
            obtain ⟨r, hr⟩ := Int.eq_ofNat_of_zero_le hx.1
            have hr8 : r < 8 := by omega
            rw [hr] at k1 CR
            have HRR := hid hr
            have hbs := dbit_shr m r hm2 hr8
            clear hx hr
            cases hbit : m.testBit r with
            | true =>
              rw [hbit] at hbs
              have HC := hid (depTo_yes (m := m) (es := es) (i := i) (by rw [HD.out, HRR.out, Int.toNat_natCast]; exact hbit))
              clear hbel hbit
              go_wp2_with (first | (go_at_call 14; refine (CR.out _).mono ?_; rintro e w2 ⟨rfl, e2⟩; rw [e2]; clear e2 w2) | (at_builtin; refine wp_append_ints rfl _ _ rfl w.heap.size _ _ _ rfl (HO.out.alloc _) _ [(i : Int)] rfl (row_lit _ _ _) ?c2 ?c3 (fun c h => by cases h) ?_))
              case c2 => have := depTo_few m es i; simp; omega
              case c3 => have := HB.out.size; simp; omega
              intro out' w3 ho3 hg3 _
              have HN : Hid (w3.ownsRow w.heap.size 2 1 out' (depTo m es (i + 1)).length (ints (depTo m es (i + 1)))) := hid (by rw [HC.out, List.length_append, ints_append]; exact ho3)
              have HB3 : Hid (Below w.heap.size w w3) := hid ((HB.out.alloc HB.out.size _).grown hg3 (by have := HB.out.size; simp; omega) (fun k hk => (HO.out.lt k hk).1))
              clear hg3 ho3
              go_wp2
              go_roundw
              case rel => exact ⟨i + 1, by omega, by go_num, HB3.out, HN, hid (fun j hj hji => (Nat.lt_or_ge j i).elim (fun h => HR.out j hj h) (fun h => by have e : j = i := (by omega); subst e; exact HX.out))⟩
              case measure => simp [RowKit.intOf]; omega
            | false =>
              rw [hbit] at hbs
              have HC := hid (depTo_no (m := m) (es := es) (i := i) (by rw [HD.out, HRR.out, Int.toNat_natCast]; exact hbit))
              clear hbel hbit
              go_wp2_with (go_at_call 14; refine (CR.out _).mono ?_; rintro e w2 ⟨rfl, e2⟩; rw [e2]; clear e2 w2)
              go_roundw
              case rel => exact ⟨i + 1, by omega, by go_num, HB.out, hid (by rw [HC.out]; exact HO.out), hid (fun j hj hji => (Nat.lt_or_ge j i).elim (fun h => HR.out j hj h) (fun h => by have e : j = i := (by omega); subst e; exact HX.out))⟩
              case measure => simp [RowKit.intOf]; omega
          · rw [decide_eq_false hx] at CR
            have HZ := hid (dep_no (es := es) (mask := m) (fun h => by have := regs_bad hlt hx; rw [this] at h; cases h.2.2))
            generalize es[i].x0 = x at *
            clear hx hbel
            go_wp2_with (go_at_call 14; refine (CR.out _).mono ?_; rintro e w2 ⟨rfl, e2⟩; rw [e2]; clear e2 w2)
            go_ret2
            exact ⟨_, by rw [HZ.out]; rfl, HB.out.alloc HB.out.size _, by rw [HZ.out]; exact own_raise (none_ints wr) HB.out.size⟩
        · have hie : i = es.length := by omega
          subst hie
          have HZ : Hid (depOut es m = (depTo m es es.length, true)) := hid (by unfold depOut; rw [if_pos ⟨h60, HM.out, regs_all (fun j hj => HR.out j hj hj)⟩, Int.toNat_natCast])
          clear hbel
          go_wp2
          go_ret2
          exact ⟨_, by rw [HZ.out]; rfl, HB.out, by rw [HZ.out]; exact HO.out⟩
    · rw [decide_eq_false hm] at CI
      have HZ := hid (dep_no (es := es) (mask := mask) (fun h => hm h.2.1))
      clear hm
      rw [HZ.out]
      go_enter Try.func5, Try.ntmps5
      go_wp2_with (go_at_call 14; refine (CI.out _).mono ?_; rintro e w2 ⟨rfl, e2⟩; rw [e2]; clear e2 w2)
      go_ret2
      exact ⟨_, rfl, HB0.out, HO0.out⟩
  · have HZ := hid (dep_no (es := es) (mask := mask) (fun h => h60 h.1))
    rw [HZ.out]
    go_enter Try.func5, Try.ntmps5
    go_wp2
    go_ret2
    exact ⟨_, rfl, HB0.out, HO0.out⟩
theorem dmask_calls (mask : Int) (w : World) : Calls Try.prog 16 #[.int .i64 mask] w fun e w' => e = .returned (.bool (decide (1 ≤ mask ∧ mask ≤ 255))) ∧ w' = w := by
  by_cases h0 : 1 ≤ mask
  · by_cases h1 : mask ≤ 255
    · go_enter Try.func16, Try.ntmps16
      go_wp2
      go_ret
      exact ⟨by simp [h0, h1], rfl⟩
    · go_enter Try.func16, Try.ntmps16
      go_wp2
      go_ret
      exact ⟨by simp [h1], rfl⟩
  · go_enter Try.func16, Try.ntmps16
    go_wp2
    go_ret
    exact ⟨by simp; omega, rfl⟩

theorem dreg_calls (n : Int) (w : World) :
    Calls Try.prog 17 #[.int .i64 n] w fun e w' => e = .returned (.bool (decide (0 ≤ n ∧ n ≤ 7))) ∧ w' = w := by
  by_cases h0 : 0 ≤ n
  · by_cases h1 : n < 8
    · have h2 : decide (0 ≤ n ∧ n ≤ 7) = true := decide_eq_true ⟨h0, by omega⟩
      rw [h2]
      go_enter Try.func17, Try.ntmps17
      go_wp2
      go_ret
      exact ⟨by simp, rfl⟩
    · have h2 : decide (0 ≤ n ∧ n ≤ 7) = false := decide_eq_false (fun h => h1 (by omega))
      rw [h2]
      go_enter Try.func17, Try.ntmps17
      go_wp2
      go_ret
      exact ⟨by first | rfl | simp | (simp; omega), rfl⟩
  · have h2 : decide (0 ≤ n ∧ n ≤ 7) = false := decide_eq_false (fun h => h0 h.1)
    rw [h2]
    go_enter Try.func17, Try.ntmps17
    go_wp2
    go_ret
    exact ⟨rfl, rfl⟩

theorem dchooses_calls (m i : Nat) (hm : m ≤ 255) (hi : i < 8) (w : World) : Calls Try.prog 18 #[.int .i64 m, .int .i64 i] w fun e w' => e = .returned (.bool (m.testBit i)) ∧ w' = w := by
  have hbs := dbit_and m i hm hi
  cases hbit : m.testBit i with
  | true =>
    rw [hbit] at hbs
    go_enter Try.func18, Try.ntmps18
    go_wp2
    go_ret
    exact ⟨rfl, rfl⟩
  | false =>
    rw [hbit] at hbs
    go_enter Try.func18, Try.ntmps18
    go_wp2
    go_ret
    exact ⟨rfl, rfl⟩

set_option maxRecDepth 20000 in
set_option maxHeartbeats 2000000 in
theorem dep_impl (es : List EventD) (hn : es.length ≤ 1048576) (mask : Int) (a : Value) (w : World) (ha : FRow encEvent 2 w a es) :
    Calls Try.prog 7 #[a, .int .i64 mask] w (DepPost es mask w) := by
  unfold DepPost
  have HA := hid ha
  obtain ⟨p, c, rfl, _⟩ := ha
  have CI := hid (fun W => dmask_calls mask W)
  by_cases h60 : es.length ≤ 60
  · by_cases hm : 1 ≤ mask ∧ mask ≤ 255
    · rw [decide_eq_true hm] at CI
      obtain ⟨m, rfl⟩ := Int.eq_ofNat_of_zero_le (show 0 ≤ mask by omega)
      have hm2 : m ≤ 255 := by omega
      have HM := hid hm
      clear hm
      go_enter Try.func7, Try.ntmps7
      go_wp2_with (go_at_call 16; refine (CI.out _).mono ?_; rintro e w2 ⟨rfl, e2⟩; rw [e2]; clear e2 w2)
      go_loopw [6, 19] (fun out iv wr => ∃ i : Nat, i ≤ es.length ∧ iv = .int .i64 i ∧ Below w.heap.size w wr ∧ Hid (wr.ownsRow w.heap.size 2 1 out (depTo m es i).length (ints (depTo m es i))) ∧ Hid (∀ j (hj : j < es.length), j < i → 0 ≤ es[j].x0 ∧ es[j].x0 ≤ 7)) (fun _ iv _ => es.length - (RowKit.intOf iv).toNat)
      case atStart => exact ⟨0, Nat.zero_le _, rfl, Below.refl _ _, hid (World.ownsRow_nil _ _ _ _), hid (fun j _ h => absurd h (Nat.not_lt_zero _))⟩
      case round =>
        obtain ⟨i, hi, rfl, hbel, HO, HR⟩ := hrel
        have HB := hid hbel
        by_cases hlt : i < es.length
        · have hne : es ≠ [] := fun h => by rw [h] at hlt; cases hlt
          obtain ⟨p', c', hv, _, hp⟩ := HA.out
          obtain ⟨rfl, rfl⟩ : p = p' ∧ c = c' := by injection hv with h1 h2 h3; exact ⟨h1, by omega⟩
          obtain ⟨g, o, rfl, hg, hc⟩ := hp hne
          clear hv hp
          have b1 : (0 : Int) ≤ (i : Int) := by omega
          have b2 : (i : Int) < (es.length : Int) := by omega
          have k0 : ∀ W : World, Below wr.heap.size wr W → W.cell? ⟨g, o + i * 2, none⟩ = some (.int .i64 es[i].x0) := fun W hW => (hW.cell (p := ⟨g, o + i * 2, none⟩) (Nat.lt_of_lt_of_le hg hbel.size)).trans ((hbel.cell (p := ⟨g, o + i * 2, none⟩) hg).trans (hc i hlt 0 (by decide)))
          have k1 := k0 wr (Below.refl _ _)
          have k2 : wr.cell? ⟨g, o + i * 2 + 1, none⟩ = some (.string es[i].x1) := (hbel.cell (p := ⟨g, o + i * 2 + 1, none⟩) hg).trans (hc i hlt 1 (by decide))
          obtain ⟨y1, hy1⟩ : ∃ y, es[i].x1 = y := ⟨_, rfl⟩
          rw [hy1] at k2
          clear hy1
          have CR := hid (fun W => dreg_calls es[i].x0 W)
          clear hc k0
          by_cases hx : 0 ≤ es[i].x0 ∧ es[i].x0 ≤ 7
          · rw [decide_eq_true hx] at CR
            have HX := hid hx
            have HD : Hid ((es.getD i zEvent).x0 = es[i].x0) := hid (by simp [List.getD, hlt])
            obtain ⟨r, hr⟩ := Int.eq_ofNat_of_zero_le hx.1
            have hr8 : r < 8 := by omega
            rw [hr] at k1 CR
            have HRR := hid hr
            obtain ⟨W2, hW2⟩ : ∃ W2, W2 = wr.alloc (.cells #[.int .i64 r, .string y1] 38) := ⟨_, rfl⟩
            have HB2 : Hid (Below w.heap.size w W2) := hid (by rw [hW2]; exact HB.out.alloc HB.out.size _)
            have HO2 : Hid (W2.ownsRow w.heap.size 2 1 u6 (depTo m es i).length (ints (depTo m es i))) := hid (by rw [hW2]; exact HO.out.alloc _)
            have l0 : W2.cell? ⟨wr.heap.size, 0, none⟩ = some (.int .i64 r) := by rw [hW2]; exact (cell_of_row _ _ 0 _ _ _ (heap_alloc_new _ _)).trans rfl
            have HW2 := hid hW2
            clear hW2
            have CB := hid (fun W => dchooses_calls m r hm2 hr8 W)
            clear hx hr
            cases hbit : m.testBit r with
            | true =>
              rw [hbit] at CB
              have HC := hid (depTo_yes (m := m) (es := es) (i := i) (by rw [HD.out, HRR.out, Int.toNat_natCast]; exact hbit))
              clear hbel hbit
              go_wp2_with (first | (go_at_call 17; rw [← HW2.out]; refine (CR.out _).mono ?_; rintro e w2 ⟨rfl, e2⟩; rw [e2]; clear e2 w2) | (go_at_call 18; refine (CB.out _).mono ?_; rintro e w2 ⟨rfl, e2⟩; rw [e2]; clear e2 w2) | (at_builtin; refine wp_append_ints rfl _ _ rfl w.heap.size _ _ _ rfl (HO2.out.alloc _) _ [(i : Int)] rfl (row_lit _ _ _) ?c2 ?c3 (fun c h => by cases h) ?_))
              case c2 => have := depTo_few m es i; simp; omega
              case c3 => have := HB2.out.size; simp; omega
              intro out' w3 ho3 hg3 _
              have HN : Hid (w3.ownsRow w.heap.size 2 1 out' (depTo m es (i + 1)).length (ints (depTo m es (i + 1)))) := hid (by rw [HC.out, List.length_append, ints_append]; exact ho3)
              have HB3 : Hid (Below w.heap.size w w3) := hid ((HB2.out.alloc HB2.out.size _).grown hg3 (by have := HB2.out.size; simp; omega) (fun k hk => (HO2.out.lt k hk).1))
              clear hg3 ho3
              go_wp2
              go_roundw
              case rel => exact ⟨i + 1, by omega, by go_num, HB3.out, HN, hid (fun j hj hji => (Nat.lt_or_ge j i).elim (fun h => HR.out j hj h) (fun h => by have e : j = i := (by omega); subst e; exact HX.out))⟩
              case measure => simp [RowKit.intOf]; omega
            | false =>
              rw [hbit] at CB
              have HC := hid (depTo_no (m := m) (es := es) (i := i) (by rw [HD.out, HRR.out, Int.toNat_natCast]; exact hbit))
              clear hbel hbit
              go_wp2_with (first | (go_at_call 17; rw [← HW2.out]; refine (CR.out _).mono ?_; rintro e w2 ⟨rfl, e2⟩; rw [e2]; clear e2 w2) | (go_at_call 18; refine (CB.out _).mono ?_; rintro e w2 ⟨rfl, e2⟩; rw [e2]; clear e2 w2))
              go_roundw
              case rel => exact ⟨i + 1, by omega, by go_num, HB2.out, hid (by rw [HC.out]; exact HO2.out), hid (fun j hj hji => (Nat.lt_or_ge j i).elim (fun h => HR.out j hj h) (fun h => by have e : j = i := (by omega); subst e; exact HX.out))⟩
              case measure => simp [RowKit.intOf]; omega
          · rw [decide_eq_false hx] at CR
            have HZ := hid (dep_no (es := es) (mask := m) (fun h => by have := regs_bad hlt hx; rw [this] at h; cases h.2.2))
            generalize es[i].x0 = x at *
            obtain ⟨W2, hW2⟩ : ∃ W2, W2 = wr.alloc (.cells #[.int .i64 x, .string y1] 38) := ⟨_, rfl⟩
            have HB2 : Hid (Below w.heap.size w W2) := hid (by rw [hW2]; exact HB.out.alloc HB.out.size _)
            have HO2 : Hid (W2.ownsRow w.heap.size 2 1 u6 (depTo m es i).length (ints (depTo m es i))) := hid (by rw [hW2]; exact HO.out.alloc _)
            have l0 : W2.cell? ⟨wr.heap.size, 0, none⟩ = some (.int .i64 x) := by rw [hW2]; exact (cell_of_row _ _ 0 _ _ _ (heap_alloc_new _ _)).trans rfl
            have HW2 := hid hW2
            clear hW2
            clear hx hbel
            go_wp2_with (go_at_call 17; rw [← HW2.out]; refine (CR.out _).mono ?_; rintro e w2 ⟨rfl, e2⟩; rw [e2]; clear e2 w2)
            go_ret2
            exact ⟨_, by rw [HZ.out]; rfl, HB2.out, by rw [HZ.out]; exact World.ownsRow_nil _ _ _ _⟩
        · have hie : i = es.length := by omega
          subst hie
          have HZ : Hid (depOut es m = (depTo m es es.length, true)) := hid (by unfold depOut; rw [if_pos ⟨h60, HM.out, regs_all (fun j hj => HR.out j hj hj)⟩, Int.toNat_natCast])
          clear hbel
          go_wp2
          go_ret2
          exact ⟨_, by rw [HZ.out]; rfl, HB.out, by rw [HZ.out]; exact HO.out⟩
    · rw [decide_eq_false hm] at CI
      have HZ := hid (dep_no (es := es) (mask := mask) (fun h => hm h.2.1))
      clear hm
      rw [HZ.out]
      go_enter Try.func7, Try.ntmps7
      go_wp2_with (go_at_call 16; refine (CI.out _).mono ?_; rintro e w2 ⟨rfl, e2⟩; rw [e2]; clear e2 w2)
      go_ret2
      exact ⟨_, rfl, Below.refl _ _, World.ownsRow_nil _ _ _ _⟩
  · have HZ := hid (dep_no (es := es) (mask := mask) (fun h => h60 h.1))
    rw [HZ.out]
    go_enter Try.func7, Try.ntmps7
    go_wp2
    go_ret2
    exact ⟨_, rfl, Below.refl _ _, World.ownsRow_nil _ _ _ _⟩
end Go.Proofs.Ytemjfhgjdiijkaa
