/- Laid together: NvWrI, NvWrI2, NvWrI3, NvSpecWr, NvSpecWr2, NvWrBoth, NvPutBoth. -/
import Derived.Test.YtphabggmbdpibaaDoorWrPut
import Derived.Test.YtphabggmbdpibaaDoorPackRead
import Derived.Test.YtphabggmbdpibaaDoorNvApS

namespace Go.Proofs.YtphabggmbdpibaaDoor
open Go.RowKit
open Go.Lib (hid)

/-- Writes, their cells in order. -/
def flatW (ws : List (Nat × Int)) : List Int := ws.flatMap fun x => [(x.1 : Int), x.2]

theorem flatW_len (ws : List (Nat × Int)) : (flatW ws).length = 2 * ws.length := by
  induction ws with
  | nil => rfl
  | cons x ws ih =>
    show ([(x.1 : Int), x.2] ++ flatW ws).length = _
    rw [List.length_append, ih, List.length_cons]
    simp
    omega

theorem flatW_take (ws : List (Nat × Int)) (j n : Nat) (v : Int) (h : ws[j]? = some (n, v)) : flatW (ws.take (j + 1)) = flatW (ws.take j) ++ [(n : Int), v] := by
  obtain ⟨hj, e⟩ := List.getElem?_eq_some_iff.1 h
  unfold flatW
  rw [List.take_succ_eq_append_getElem hj, List.flatMap_append, e]
  rfl

/-- What stands while a copy is told into a slice of writes that the call makes. -/
def Wrote (w0 : World) (base bw bx : Nat) (ws : List (Nat × Int)) (j : Nat) (W : World) : Prop :=
  ∃ v, W.ownsRow base 152 2 v j (ints (flatW (ws.take j))) ∧ W.heap[bw]? = some (.cells #[v] 90) ∧ v.ownBlock ≠ some bw ∧ v.ownBlock ≠ some bx ∧ bx < W.heap.size ∧ Below base w0 W

theorem puts_writes (w0 : World) (base bw bx : Nat) (hbase : base ≤ bw) (hbx : bx ≠ bw) (ws : List (Nat × Int)) (hws : ws.length ≤ 1000) :
    Puts 217 [.pointer (some ⟨bw, 0, none⟩)] ws bx (fun j W => Wrote w0 base bw bx ws j W) := by
  intro j n v W hj hI
  obtain ⟨sv, ho, hb, h1, h2, h3, h4⟩ := hI
  have hjl : j < ws.length := (List.getElem?_eq_some_iff.1 hj).1
  refine (wput_calls bw j sv _ n v base W (by omega) hbase ho hb h1).mono ?_
  rintro e w' ⟨rfl, sv', ho', hb', hor, hsz, ⟨e1, e2, e3⟩, hold⟩
  have hbw : bw < W.heap.size := (Array.getElem?_eq_some_iff.1 hb).1
  refine ⟨rfl, ⟨sv', by rw [flatW_take ws j n v hj]; exact ho', hb', ?_, ?_, Nat.lt_of_lt_of_le h3 hsz, ?_⟩, hold bx h3 hbx (fun e => h2 e.symm), hsz⟩
  · rcases hor with h | ⟨k, h, hk⟩
    · rw [h]; exact h1
    · rw [h]; intro e; injection e with e; omega
  · rcases hor with h | ⟨k, h, hk⟩
    · rw [h]; exact h2
    · rw [h]; intro e; injection e with e; omega
  · exact ⟨e1.trans h4.os, e2.trans h4.tape, e3.trans h4.output, Nat.le_trans h4.size hsz, fun k hk => (hold k (by omega) (by omega) (fun e => by have := (ho.lt k e.symm).1; omega)).trans (h4.block k hk)⟩

/-- The writes that put numbers and a count into the copy that begins at a place. -/
def putW (at' : Nat) (l : List Int) (c : Int) : List Int := flatW (tells at' l.length (pad20 l) (1 + (c + l.sum) % 999983) c)

theorem putW_len (at' : Nat) (l : List Int) (c : Int) : (putW at' l c).length = 2 * (l.length + 3) := by unfold putW; rw [flatW_len, tells_len]

theorem tell_wrote (l : List Int) (h20 : l.length ≤ 20) (start : Nat) (hs : start ≤ 22) (c : Int) (w0 w : World) (base bw : Nat) (hbase : base ≤ bw) (hsz : base ≤ w.heap.size) (hb : w.heap[bw]? = some (.cells #[.slice none 0 0] 90)) (hw : Below base w0 w) :
    Calls Tryd.prog 121 #[.agg (nvc (1 + (c + l.sum) % 999983) (pad20 l) c), .int .i64 start, .int .i64 l.length, .func (.func 217) #[] #[.pointer (some ⟨bw, 0, none⟩)]] w fun e w' => e = .returned (.tuple #[]) ∧ ∃ v, w'.ownsRow base 152 2 v (l.length + 3) (ints (putW start l c)) ∧ w'.heap[bw]? = some (.cells #[v] 90) ∧ Below base w0 w' := by
  have hal := (Below.refl w.heap.size w).alloc (Nat.le_refl _) (.cells (nvc (1 + (c + l.sum) % 999983) (pad20 l) c) 166)
  have hbl : bw < w.heap.size := (Array.getElem?_eq_some_iff.1 hb).1
  have hput := puts_writes w0 base bw w.heap.size hbase (by omega) (tells start l.length (pad20 l) (1 + (c + l.sum) % 999983) c) (by rw [tells_len]; omega)
  have h := tell_writes (fun j W => Wrote w0 base bw w.heap.size (tells start l.length (pad20 l) (1 + (c + l.sum) % 999983) c) j W) (1 + (c + l.sum) % 999983) c (pad20 l) (pad20_len l h20) start l.length hs h20 (.pointer (some ⟨bw, 0, none⟩)) w hput ⟨.slice none 0 0, World.ownsRow_nil _ _ _ _, (hal.block bw hbl).trans hb, by simp [Value.ownBlock], by simp [Value.ownBlock], by simp, hw.trans (hal.mono hsz)⟩
  refine h.mono ?_
  rintro e w' ⟨rfl, v, ho', hb', _, _, _, hw'⟩
  refine ⟨rfl, v, ?_, hb', hw'⟩
  rw [List.take_of_length_le (by rw [tells_len]; omega)] at ho'
  exact ho'

theorem nvWrites_no (size : Int) (ws l : List Int) (hn : ws.length ≤ 1048576) (hl : l.length ≤ 1048576) (hf : (formB size ws && valsB l size) = false) (a b : Value) (w : World) (ha : RowIn w a ws) (hb : RowIn w b l) :
    Calls Tryd.prog 215 #[.agg #[.int .i64 size, a], b] w fun e w' => e = .returned (.tuple #[.slice none 0 0, .bool false]) ∧ Below w.heap.size w w' := by
  have HA := hid ha
  have HBV := hid hb
  have CF := hid (fun a W (hW : RowIn W a ws) => formed_calls size ws hn a W hW)
  have CV := hid (fun b W (hW : RowIn W b l) => areValues_calls l hl size b W hW)
  generalize formB size ws = f at *
  generalize valsB l size = g at *
  obtain ⟨p, c, rfl, hc, _⟩ := ha
  have HW : Hid (Below w.heap.size w (w.alloc (.cells #[.int .i64 size, .slice p ws.length c] 29))) := hid ((Below.refl _ _).alloc (Nat.le_refl _) _)
  cases f
  · clear hf
    go_enter Tryd.func215, Tryd.ntmps215
    go_wp2_with (go_at_call 166; refine (CF.out _ _ (HA.out.on HW.out)).mono ?_; rintro e w1 ⟨rfl, hb1⟩; have HB1 := hid (HW.out.trans (hb1.mono HW.out.size)); clear hb1)
    go_ret2
    exact ⟨rfl, HB1.out⟩
  · have hg : g = false := by simpa using hf
    subst hg
    clear hf
    go_enter Tryd.func215, Tryd.ntmps215
    go_wp2_with (go_at_call 166; refine (CF.out _ _ (HA.out.on HW.out)).mono ?_; rintro e w1 ⟨rfl, hb1⟩; refine Hid.out ?_)
    refine hid ?_
    have k0 := hb1.cell (p := ⟨w.heap.size, 0, none⟩) (by simp)
    have HB1 := hid (HW.out.trans (hb1.mono HW.out.size))
    clear hb1
    go_wp2_with (go_at_call 118; refine (CV.out _ _ (HBV.out.on HB1.out)).mono ?_; rintro e w2 ⟨rfl, rfl⟩)
    go_ret2
    exact ⟨rfl, HB1.out⟩
end Go.Proofs.YtphabggmbdpibaaDoor

namespace Go.Proofs.YtphabggmbdpibaaDoor
open Go.RowKit
open Go.Lib (hid)

attribute [local go_sem ↓] buildD_eq storeD_eq loadD_eq

set_option maxRecDepth 20000 in
set_option maxHeartbeats 1000000 in
theorem nvWrites_none (m h : Nat) (hh : h = m + 2) (h1 : 1 ≤ m) (h20 : m ≤ 20) (ws : List Int) (hws : ws.length = 2 * h) (hnb : Numb ws) (hst : (standP (wholeL (ws.take h)) (wholeL (ws.drop h)) (cpC (ws.take h)) (cpC (ws.drop h))).2 = false) (l : List Int) (hl : valsB l m = true) (hll : l.length ≤ 1048576) (a b : Value) (w : World) (ha : RowIn w a ws) (hb : RowIn w b l) :
    Calls Tryd.prog 215 #[.agg #[.int .i64 m, a], b] w fun e w' => e = .returned (.tuple #[.slice none 0 0, .bool false]) ∧ Below w.heap.size w w' := by
  have HA := hid ha
  have HBV := hid hb
  have CV := hid (fun b W (hW : RowIn W b l) => areValues_calls l hll m b W hW)
  rw [hl] at CV
  have lT : (ws.take h).length = h := by rw [List.length_take]; omega
  have lD : (ws.drop h).length = h := by rw [List.length_drop]; omega
  have CF := hid (fun a W (hW : RowIn W a ws) => formed_calls m ws (by omega) a W hW)
  rw [formB_iff.2 ⟨by omega, by omega, by omega, hnb⟩] at CF
  have CC := hid (fun a W (hW : RowIn W a ws) => copiesOf_calls m h hh h1 h20 ws hws a W hW)
  have CS := hid (fun W => standing_calls (cpK (ws.take h)) (cpK (ws.drop h)) (cpC (ws.take h)) (cpC (ws.drop h)) (padN (ws.take h)) (padN (ws.drop h)) (padN_len _ (by omega) (by omega)) (padN_len _ (by omega) (by omega)) (padN_numb (numb_take hnb h)) (padN_numb (numb_drop hnb h)) (cpC_bd (numb_take hnb h)) (cpC_bd (numb_drop hnb h)) W)
  rw [wholeB_pad, wholeB_pad, hst] at CS
  have hA := copyV_size (ws.take h) (by omega) (by omega)
  have hB := copyV_size (ws.drop h) (by omega) (by omega)
  have o1 : (copyV (ws.take h) ++ copyV (ws.drop h)).size = 44 := by rw [Array.size_append, hA, hB]
  have o2 : (copyV (ws.take h) ++ copyV (ws.drop h)).all (·.oneCell') = true := by rw [Array.all_append, copyV, copyV, nvc_one, nvc_one]; rfl
  have hsd := fun W c' h' => storeD_new W c' _ h' o1 o2
  have hld := fun W => loadD_new W _ o1
  have CS' : Hid (∀ W, Calls Tryd.prog 168 #[.agg (copyV (ws.take h) ++ copyV (ws.drop h))] W fun e w' => ∃ i, e = .returned (.tuple #[.int .i64 i, .bool false]) ∧ Below W.heap.size W w') := hid (fun W => (CS.out W).mono fun e w' ⟨he, hb⟩ => ⟨_, he, hb⟩)
  generalize copyV (ws.take h) ++ copyV (ws.drop h) = V at *
  obtain ⟨p, c, rfl, hc, _⟩ := ha
  have HW : Hid (Below w.heap.size w (w.alloc (.cells #[.int .i64 m, .slice p ws.length c] 29))) := hid ((Below.refl _ _).alloc (Nat.le_refl _) _)
  clear hst CS hA hB o1 o2 lT lD hws hnb
  go_enter Tryd.func215, Tryd.ntmps215
  go_wp2_with (go_at_call 166; refine (CF.out _ _ (HA.out.on HW.out)).mono ?_; rintro e w1 ⟨rfl, hb1⟩; refine Hid.out ?_)
  refine hid ?_
  have k0 := hb1.cell (p := ⟨w.heap.size, 0, none⟩) (by simp)
  have k1 := hb1.cell (p := ⟨w.heap.size, 1, none⟩) (by simp)
  have HB1 := hid (HW.out.trans (hb1.mono HW.out.size))
  clear hb1
  go_wp2_with (first | (go_at_call 118; refine (CV.out _ _ (HBV.out.on HB1.out)).mono ?_; rintro e w5 ⟨rfl, rfl⟩) | (go_at_call 167; refine (CC.out _ _ (HA.out.on HB1.out)).mono ?_; rintro e w2 ⟨rfl, hb2⟩; have HB2 := hid (HB1.out.trans (hb2.mono HB1.out.size)); clear hb2) | (go_at_call 168; refine (CS'.out _).mono ?_; rintro e w3 ⟨i, rfl, hb3⟩; have HB3 := hid ((HB2.out.alloc HB2.out.size (.cells V 213)).trans (hb3.mono (by simp; have := HB2.out.size; omega))); clear hb3))
  go_ret2
  exact ⟨rfl, HB3.out⟩

set_option maxRecDepth 20000 in
set_option maxHeartbeats 2000000 in
theorem nvWrites_max (m h : Nat) (hh : h = m + 2) (h1 : 1 ≤ m) (h20 : m ≤ 20) (ws : List Int) (hws : ws.length = 2 * h) (hnb : Numb ws) (i : Nat) (hi : i = 0 ∨ i = 1) (hst : standP (wholeL (ws.take h)) (wholeL (ws.drop h)) (cpC (ws.take h)) (cpC (ws.drop h)) = ((i : Int), true)) (L : List Int) (hL : L = if i = 0 then ws.take h else ws.drop h) (hmx : cpC L = 1000000000) (l : List Int) (hl : valsB l m = true) (hll : l.length ≤ 1048576) (a b : Value) (w : World) (ha : RowIn w a ws) (hb : RowIn w b l) :
    Calls Tryd.prog 215 #[.agg #[.int .i64 m, a], b] w fun e w' => e = .returned (.tuple #[.slice none 0 0, .bool false]) ∧ Below w.heap.size w w' := by
  have HA := hid ha
  have HBV := hid hb
  have CV := hid (fun b W (hW : RowIn W b l) => areValues_calls l hll m b W hW)
  rw [hl] at CV
  have lT : (ws.take h).length = h := by rw [List.length_take]; omega
  have lD : (ws.drop h).length = h := by rw [List.length_drop]; omega
  have CF := hid (fun a W (hW : RowIn W a ws) => formed_calls m ws (by omega) a W hW)
  rw [formB_iff.2 ⟨by omega, by omega, by omega, hnb⟩] at CF
  have CC := hid (fun a W (hW : RowIn W a ws) => copiesOf_calls m h hh h1 h20 ws hws a W hW)
  have CS := hid (fun W => standing_calls (cpK (ws.take h)) (cpK (ws.drop h)) (cpC (ws.take h)) (cpC (ws.drop h)) (padN (ws.take h)) (padN (ws.drop h)) (padN_len _ (by omega) (by omega)) (padN_len _ (by omega) (by omega)) (padN_numb (numb_take hnb h)) (padN_numb (numb_drop hnb h)) (cpC_bd (numb_take hnb h)) (cpC_bd (numb_drop hnb h)) W)
  rw [wholeB_pad, wholeB_pad, hst] at CS
  have hA := copyV_size (ws.take h) (by omega) (by omega)
  have hB := copyV_size (ws.drop h) (by omega) (by omega)
  have o1 : (copyV (ws.take h) ++ copyV (ws.drop h)).size = 44 := by rw [Array.size_append, hA, hB]
  have o2 : (copyV (ws.take h) ++ copyV (ws.drop h)).all (·.oneCell') = true := by rw [Array.all_append, copyV, copyV, nvc_one, nvc_one]; rfl
  have hsd := fun W c' h' => storeD_new W c' _ h' o1 o2
  have hld := fun W => loadD_new W _ o1
  have lN : (cpN L).length = m := by
    have : L.length = h := by rw [hL]; split <;> assumption
    unfold cpN; simp; omega
  have hV : (∀ j u, (ints (cpN L))[j]? = some u → (copyV (ws.take h) ++ copyV (ws.drop h))[i * 22 + 1 + j]? = some u) ∧ (copyV (ws.take h) ++ copyV (ws.drop h))[i * 22 + 21]? = some (.int .i64 (cpC L)) := by
    rcases hi with rfl | rfl
    · rw [if_pos rfl] at hL
      subst hL
      obtain ⟨c1, c2⟩ := copy_cells (ws.take h) (by omega) (by omega)
      refine ⟨fun j u hj => ?_, ?_⟩
      · have hjl : j < m := by rw [← lN, ← ints_len]; exact (List.getElem?_eq_some_iff.1 hj).1
        rw [show 0 * 22 + 1 + j = 1 + j by omega, Array.getElem?_append_left (by omega)]
        exact c1 j u hj
      · rw [show 0 * 22 + 21 = 21 by omega, Array.getElem?_append_left (by omega)]
        exact c2
    · rw [if_neg (by decide)] at hL
      subst hL
      obtain ⟨c1, c2⟩ := copy_cells (ws.drop h) (by omega) (by omega)
      refine ⟨fun j u hj => ?_, ?_⟩
      · rw [Array.getElem?_append_right (by omega), hA, show 1 * 22 + 1 + j - 22 = 1 + j by omega]
        exact c1 j u hj
      · rw [Array.getElem?_append_right (by omega), hA, show 1 * 22 + 21 - 22 = 21 by omega]
        exact c2
  have CS' : Hid (∀ W, Calls Tryd.prog 168 #[.agg (copyV (ws.take h) ++ copyV (ws.drop h))] W fun e w' => e = .returned (.tuple #[.int .i64 i, .bool true]) ∧ Below W.heap.size W w') := hid (fun W => CS.out W)
  generalize copyV (ws.take h) ++ copyV (ws.drop h) = V at *
  have HV := hid hV
  have LN := hid lN
  obtain ⟨p, c, rfl, hc, _⟩ := ha
  have HW : Hid (Below w.heap.size w (w.alloc (.cells #[.int .i64 m, .slice p ws.length c] 29))) := hid ((Below.refl _ _).alloc (Nat.le_refl _) _)
  have b1 : (0 : Int) ≤ (m : Int) := by omega
  have b2 : (m : Int) ≤ (20 : Int) := by omega
  clear hst CS hA hB o1 o2 lT lD hws hnb hV lN hL
  go_enter Tryd.func215, Tryd.ntmps215
  go_wp2_with (go_at_call 166; refine (CF.out _ _ (HA.out.on HW.out)).mono ?_; rintro e w1 ⟨rfl, hb1⟩; refine Hid.out ?_)
  refine hid ?_
  have k0 := hb1.cell (p := ⟨w.heap.size, 0, none⟩) (by simp)
  have k1 := hb1.cell (p := ⟨w.heap.size, 1, none⟩) (by simp)
  have HV1 : Hid (w1.heap[w.heap.size]? = some (.cells #[.int .i64 m, .slice p ws.length c] 29)) := hid ((hb1.block _ (by simp)).trans (heap_alloc_new _ _))
  have HB1 := hid (HW.out.trans (hb1.mono HW.out.size))
  have hz1 := hb1.size
  simp only [World.size_alloc] at hz1
  clear hb1
  go_wp2_with (first | (go_at_call 118; refine (CV.out _ _ (HBV.out.on HB1.out)).mono ?_; rintro e w5 ⟨rfl, rfl⟩) | (go_at_call 167; refine (CC.out _ _ (HA.out.on HB1.out)).mono ?_; rintro e w2 ⟨rfl, hb2⟩; refine Hid.out ?_))
  refine hid ?_
  have hz2 := hb2.size
  have HV2 := hid ((hb2.block w.heap.size (by omega)).trans HV1.out)
  have HB2 := hid (HB1.out.trans (hb2.mono HB1.out.size))
  clear hb2 k0 k1
  go_wp2_with (go_at_call 168; refine (CS'.out _).mono ?_; rintro e w3 ⟨rfl, hb3⟩; refine Hid.out ?_)
  refine hid ?_
  have hz3 := hb3.size
  simp only [World.size_alloc] at hz3
  have HV3 := hid ((hb3.block w.heap.size (by simp; omega)).trans ((Below.heap_alloc w2 _ _ (by omega)).trans HV2.out))
  have HC3 : Hid (w3.heap[w2.heap.size]? = some (.cells V 213)) := hid ((hb3.block _ (by simp)).trans (heap_alloc_new _ _))
  have HB3 := hid ((HB2.out.alloc HB2.out.size (.cells V 213)).trans (hb3.mono (by simp; have := HB2.out.size; omega)))
  clear hb3
  have r1 : w3.cell? ⟨w2.heap.size, i * 22 + 21, none⟩ = some (.int .i64 1000000000) := by
    rw [cell_of_row _ _ _ _ _ _ HC3.out, ← hmx]; exact HV.out.2
  clear hmx
  rcases hi with rfl | rfl
  all_goals
    simp only [Nat.zero_mul, Nat.one_mul, Nat.zero_add, Nat.reduceAdd] at r1
    go_wp2
    go_ret2
    exact ⟨rfl, HB3.out⟩

end Go.Proofs.YtphabggmbdpibaaDoor

namespace Go.Proofs.YtphabggmbdpibaaDoor
open Go.RowKit
open Go.Lib (hid)

attribute [local go_sem ↓] buildD_eq storeD_eq loadD_eq

theorem own_lower_w {w : World} {base base' size n : Nat} {e : TypeId} {v : Value} {xs : List Value} (h : w.ownsRow base e size v n xs) (hb : base' ≤ base) : w.ownsRow base' e size v n xs :=
  ⟨h.1, h.2.imp id fun ⟨g, cap, cur, a1, a2, a3⟩ => ⟨g, cap, cur, a1, Nat.le_trans hb a2, a3⟩⟩

set_option maxRecDepth 20000 in
set_option maxHeartbeats 2000000 in
theorem nvWrites_yes (m h : Nat) (hh : h = m + 2) (h1 : 1 ≤ m) (h20 : m ≤ 20) (ws : List Int) (hws : ws.length = 2 * h) (hnb : Numb ws) (i : Nat) (hi : i = 0 ∨ i = 1) (hst : standP (wholeL (ws.take h)) (wholeL (ws.drop h)) (cpC (ws.take h)) (cpC (ws.drop h)) = ((i : Int), true)) (L : List Int) (hL : L = if i = 0 then ws.take h else ws.drop h) (hmx : cpC L ≠ 1000000000) (hbd : 0 ≤ cpC L ∧ cpC L ≤ 1000000000) (l : List Int) (hlm : l.length = m) (hln : Numb l) (a b : Value) (w : World) (ha : RowIn w a ws) (hb : RowIn w b l) :
    Calls Tryd.prog 215 #[.agg #[.int .i64 m, a], b] w fun e w' => ∃ sv, e = .returned (.tuple #[sv, .bool true]) ∧ Below w.heap.size w w' ∧ w'.ownsRow w.heap.size 152 2 sv (l.length + 3) (ints (putW (if i = 0 then h else 0) l (cpC L + 1))) := by
  have h22 : h ≤ 22 := by omega
  have hd22 : (h : Int) ≤ 22 := by omega
  have hd0 : (0 : Int) ≤ (h : Int) := by omega
  have hl20 : l.length ≤ 20 := by omega
  have HA := hid ha
  have HBV := hid hb
  have hl : valsB l m = true := valsB_iff.2 ⟨by omega, by omega, by omega, hln⟩
  have hll : l.length ≤ 1048576 := by omega
  have CV := hid (fun b W (hW : RowIn W b l) => areValues_calls l hll m b W hW)
  rw [hl] at CV
  have CWO := hid (fun W => words_nat m h hh h1 h20 W)
  have CWI := hid (fun b W (hW : RowIn W b l) => copyWith_calls l (by omega) hln (cpC L + 1) (by omega) b W hW)
  have lT : (ws.take h).length = h := by rw [List.length_take]; omega
  have lD : (ws.drop h).length = h := by rw [List.length_drop]; omega
  have CF := hid (fun a W (hW : RowIn W a ws) => formed_calls m ws (by omega) a W hW)
  rw [formB_iff.2 ⟨by omega, by omega, by omega, hnb⟩] at CF
  have CC := hid (fun a W (hW : RowIn W a ws) => copiesOf_calls m h hh h1 h20 ws hws a W hW)
  have CS := hid (fun W => standing_calls (cpK (ws.take h)) (cpK (ws.drop h)) (cpC (ws.take h)) (cpC (ws.drop h)) (padN (ws.take h)) (padN (ws.drop h)) (padN_len _ (by omega) (by omega)) (padN_len _ (by omega) (by omega)) (padN_numb (numb_take hnb h)) (padN_numb (numb_drop hnb h)) (cpC_bd (numb_take hnb h)) (cpC_bd (numb_drop hnb h)) W)
  rw [wholeB_pad, wholeB_pad, hst] at CS
  have hA := copyV_size (ws.take h) (by omega) (by omega)
  have hB := copyV_size (ws.drop h) (by omega) (by omega)
  have o1 : (copyV (ws.take h) ++ copyV (ws.drop h)).size = 44 := by rw [Array.size_append, hA, hB]
  have o2 : (copyV (ws.take h) ++ copyV (ws.drop h)).all (·.oneCell') = true := by rw [Array.all_append, copyV, copyV, nvc_one, nvc_one]; rfl
  have hsd := fun W c' h' => storeD_new W c' _ h' o1 o2
  have hld := fun W => loadD_new W _ o1
  have lN : (cpN L).length = m := by
    have : L.length = h := by rw [hL]; split <;> assumption
    unfold cpN; simp; omega
  have hV : (∀ j u, (ints (cpN L))[j]? = some u → (copyV (ws.take h) ++ copyV (ws.drop h))[i * 22 + 1 + j]? = some u) ∧ (copyV (ws.take h) ++ copyV (ws.drop h))[i * 22 + 21]? = some (.int .i64 (cpC L)) := by
    rcases hi with rfl | rfl
    · rw [if_pos rfl] at hL
      subst hL
      obtain ⟨c1, c2⟩ := copy_cells (ws.take h) (by omega) (by omega)
      refine ⟨fun j u hj => ?_, ?_⟩
      · have hjl : j < m := by rw [← lN, ← ints_len]; exact (List.getElem?_eq_some_iff.1 hj).1
        rw [show 0 * 22 + 1 + j = 1 + j by omega, Array.getElem?_append_left (by omega)]
        exact c1 j u hj
      · rw [show 0 * 22 + 21 = 21 by omega, Array.getElem?_append_left (by omega)]
        exact c2
    · rw [if_neg (by decide)] at hL
      subst hL
      obtain ⟨c1, c2⟩ := copy_cells (ws.drop h) (by omega) (by omega)
      refine ⟨fun j u hj => ?_, ?_⟩
      · rw [Array.getElem?_append_right (by omega), hA, show 1 * 22 + 1 + j - 22 = 1 + j by omega]
        exact c1 j u hj
      · rw [Array.getElem?_append_right (by omega), hA, show 1 * 22 + 21 - 22 = 21 by omega]
        exact c2
  have CS' : Hid (∀ W, Calls Tryd.prog 168 #[.agg (copyV (ws.take h) ++ copyV (ws.drop h))] W fun e w' => e = .returned (.tuple #[.int .i64 i, .bool true]) ∧ Below W.heap.size W w') := hid (fun W => CS.out W)
  generalize copyV (ws.take h) ++ copyV (ws.drop h) = V at *
  have HV := hid hV
  have LN := hid lN
  obtain ⟨p, c, rfl, hc, _⟩ := ha
  have HW : Hid (Below w.heap.size w (w.alloc (.cells #[.int .i64 m, .slice p ws.length c] 29))) := hid ((Below.refl _ _).alloc (Nat.le_refl _) _)
  have b1 : (0 : Int) ≤ (m : Int) := by omega
  have b2 : (m : Int) ≤ (20 : Int) := by omega
  clear hst CS hA hB o1 o2 lT lD hws hnb hV lN hL
  generalize cpC L = cnt at *
  go_enter Tryd.func215, Tryd.ntmps215
  go_wp2_with (go_at_call 166; refine (CF.out _ _ (HA.out.on HW.out)).mono ?_; rintro e w1 ⟨rfl, hb1⟩; refine Hid.out ?_)
  refine hid ?_
  have k0 := hb1.cell (p := ⟨w.heap.size, 0, none⟩) (by simp)
  have k1 := hb1.cell (p := ⟨w.heap.size, 1, none⟩) (by simp)
  have HV1 : Hid (w1.heap[w.heap.size]? = some (.cells #[.int .i64 m, .slice p ws.length c] 29)) := hid ((hb1.block _ (by simp)).trans (heap_alloc_new _ _))
  have HB1 := hid (HW.out.trans (hb1.mono HW.out.size))
  have hz1 := hb1.size
  simp only [World.size_alloc] at hz1
  clear hb1
  go_wp2_with (first | (go_at_call 118; refine (CV.out _ _ (HBV.out.on HB1.out)).mono ?_; rintro e w5 ⟨rfl, rfl⟩) | (go_at_call 167; refine (CC.out _ _ (HA.out.on HB1.out)).mono ?_; rintro e w2 ⟨rfl, hb2⟩; refine Hid.out ?_))
  refine hid ?_
  have hz2 := hb2.size
  have HV2 := hid ((hb2.block w.heap.size (by omega)).trans HV1.out)
  have HB2 := hid (HB1.out.trans (hb2.mono HB1.out.size))
  clear hb2 k0 k1
  go_wp2_with (go_at_call 168; refine (CS'.out _).mono ?_; rintro e w3 ⟨rfl, hb3⟩; refine Hid.out ?_)
  refine hid ?_
  have hz3 := hb3.size
  simp only [World.size_alloc] at hz3
  have HV3 := hid ((hb3.block w.heap.size (by simp; omega)).trans ((Below.heap_alloc w2 _ _ (by omega)).trans HV2.out))
  have HC3 : Hid (w3.heap[w2.heap.size]? = some (.cells V 213)) := hid ((hb3.block _ (by simp)).trans (heap_alloc_new _ _))
  have HB3 := hid ((HB2.out.alloc HB2.out.size (.cells V 213)).trans (hb3.mono (by simp; have := HB2.out.size; omega)))
  clear hb3
  have hmf : ∀ (fn : Fn) (first cap : Array Value) (w : World), (Instr.makeFunc fn first cap).run Tryd.prog w = .ok (.func fn first cap) w := fun _ _ _ _ => rfl
  obtain ⟨r0, _⟩ := var_cells HV3.out
  have r1 : w3.cell? ⟨w2.heap.size, i * 22 + 21, none⟩ = some (.int .i64 cnt) := by
    rw [cell_of_row _ _ _ _ _ _ HC3.out]; exact HV.out.2
  have b4 : (cnt == 1000000000) = false := by simpa using hmx
  have b5 : IntKind.i64.wrap (cnt + 1) = cnt + 1 := by rw [IntKind.wrap_i64]; omega
  subst hlm
  have CTL := hid (fun start (hs : start ≤ 22) w0 W base bw h1 h2 h3 h4 => tell_wrote l hl20 start hs (cnt + 1) w0 W base bw h1 h2 h3 h4)
  have HP3 := hid (HBV.out.on HB3.out)
  have k0 : ∀ W : World, Below w3.heap.size w3 W → W.cell? ⟨w.heap.size, 0, none⟩ = some (.int .i64 l.length) := fun W hW => (hW.cell (p := ⟨w.heap.size, 0, none⟩) (by show w.heap.size < _; omega)).trans r0
  have k1 : ∀ W : World, Below w3.heap.size w3 W → W.cell? ⟨w2.heap.size, i * 22 + 21, none⟩ = some (.int .i64 cnt) := fun W hW => (hW.cell (p := ⟨w2.heap.size, i * 22 + 21, none⟩) (by show w2.heap.size < _; omega)).trans r1
  have CW3 := hid (fun W (hW : Below w3.heap.size w3 W) => CWI.out b W (HP3.out.on hW))
  have HWV : Hid (Below w3.heap.size w3 (w3.alloc (.cells #[.slice none 0 0] 90))) := hid ((Below.refl _ _).alloc (Nat.le_refl _) _)
  have HCV : Hid ((w3.alloc (.cells #[.slice none 0 0] 90)).heap[w3.heap.size]? = some (.cells #[.slice none 0 0] 90)) := hid (heap_alloc_new _ _)
  have HLT : Hid (w3.heap.size < (w3.alloc (.cells #[.slice none 0 0] 90)).heap.size) := hid (by simp)
  clear hmx hbd hl hll hln hh h1 h20
  rcases hi with rfl | rfl
  · simp only [Nat.zero_mul, Nat.zero_add] at r1 k1
    go_wp2_with (go_at_call 119; refine (CWO.out _).mono ?_; rintro e w5 ⟨rfl, e5⟩; rw [e5]; clear e5 w5)
    go_region_held3 (fun w' => Below w3.heap.size w3 w') (first | with_reducible assumption | exact Below.drew HWV.out | exact below_step (by assumption) (Nat.le_refl _) (by assumption)) ((first | (go_at_call 120; refine (CW3.out _ (by assumption)).mono ?_; rintro e w6 ⟨rfl, hb6⟩) | (go_at_call 121; refine (CTL.out h (h22) w3 _ w3.heap.size w3.heap.size (Nat.le_refl _) (Nat.le_trans (Nat.le_of_lt HLT.out) hb6.size) ((hb6.block _ HLT.out).trans HCV.out) (by assumption)).mono ?_; rintro e w7 ⟨rfl, v7, ho7, hc7, hb7⟩; obtain ⟨p7, c7, rfl⟩ := own_slice ho7; have q0 := (cell_of_row w7 w3.heap.size 0 _ _ _ hc7).trans (show (#[Value.slice p7 (l.length + 3) c7] : Array Value)[0]? = some (.slice p7 (l.length + 3) c7) from rfl))))
    all_goals
      rename_i hS
      have HO := hid ho7
      have HB7 := hid hb7
      clear hS ho7 hc7 hb7 hb6
      go_wp2
      go_ret2
      refine ⟨.slice p7 (l.length + 3) c7, rfl, HB3.out.trans (HB7.out.mono HB3.out.size), ?_⟩
      exact own_lower_w HO.out HB3.out.size
  · simp only [Nat.one_mul] at r1 k1
    go_wp2_with (go_at_call 119; refine (CWO.out _).mono ?_; rintro e w5 ⟨rfl, e5⟩; rw [e5]; clear e5 w5)
    go_region_held3 (fun w' => Below w3.heap.size w3 w') (first | with_reducible assumption | exact Below.drew HWV.out | exact below_step (by assumption) (Nat.le_refl _) (by assumption)) ((first | (go_at_call 120; refine (CW3.out _ (by assumption)).mono ?_; rintro e w6 ⟨rfl, hb6⟩) | (go_at_call 121; refine (CTL.out 0 (Nat.zero_le _) w3 _ w3.heap.size w3.heap.size (Nat.le_refl _) (Nat.le_trans (Nat.le_of_lt HLT.out) hb6.size) ((hb6.block _ HLT.out).trans HCV.out) (by assumption)).mono ?_; rintro e w7 ⟨rfl, v7, ho7, hc7, hb7⟩; obtain ⟨p7, c7, rfl⟩ := own_slice ho7; have q0 := (cell_of_row w7 w3.heap.size 0 _ _ _ hc7).trans (show (#[Value.slice p7 (l.length + 3) c7] : Array Value)[0]? = some (.slice p7 (l.length + 3) c7) from rfl))))
    all_goals
      rename_i hS
      have HO := hid ho7
      have HB7 := hid hb7
      clear hS ho7 hc7 hb7 hb6
      go_wp2
      go_ret2
      refine ⟨.slice p7 (l.length + 3) c7, rfl, HB3.out.trans (HB7.out.mono HB3.out.size), ?_⟩
      exact own_lower_w HO.out HB3.out.size
end Go.Proofs.YtphabggmbdpibaaDoor

namespace Go.Proofs.YtphabggmbdpibaaDoor
open Go.RowKit
open Go.Lib (hid)

/-- May these numbers be put? -/
def putB (size : Int) (ws l : List Int) : Bool := (readOut size ws).2.2 && valsB l size && !((readOut size ws).2.1 == 1000000000)

set_option maxRecDepth 20000 in
set_option maxHeartbeats 1000000 in
theorem specWrites_no (size : Int) (ws l : List Int) (hn : ws.length ≤ 1048576) (hl : l.length ≤ 1048576) (hf : putB size ws l = false) (a b : Value) (w : World) (ha : RowIn w a ws) (hb : RowIn w b l) :
    Calls Tryd.prog 50 #[.agg #[.int .i64 size, a], b] w fun e w' => ∃ sv, e = .returned (.tuple #[sv, .bool false]) ∧ Below w.heap.size w w' ∧ w'.ownsRow w.heap.size 152 2 sv 0 [] := by
  have HA := hid ha
  have HBV := hid hb
  have CR := hid (fun a W (hW : RowIn W a ws) => read_spec size ws hn a W hW)
  have CN := hid (fun b W (hW : RowIn W b l) => l3Numbers_calls l hl b W hW)
  unfold ReadPost at CR
  unfold putB valsB at hf
  have hsz : (readOut size ws).2.2 = true → 1 ≤ size ∧ size ≤ 20 := by
    unfold readOut
    intro h
    by_cases hfm : formB size ws = true
    · obtain ⟨h1, h2, _, _⟩ := formB_iff.1 hfm
      exact ⟨h1, h2⟩
    · rw [if_neg hfm] at h; cases h
  generalize (readOut size ws).1 = R at *
  generalize (readOut size ws).2.1 = cnt at *
  generalize (readOut size ws).2.2 = ok at *
  generalize numbB l = nb at *
  obtain ⟨p, c, rfl, hc, _⟩ := ha
  obtain ⟨q, d, rfl, _, _⟩ := hb
  have HW : Hid (Below w.heap.size w ((w.alloc (.cells #[.int .i64 size, .slice p ws.length c] 29)).alloc (.cells #[] 152))) := hid (((Below.refl _ _).alloc (Nat.le_refl _) _).alloc (by simp) _)
  have HOE : Hid (((w.alloc (.cells #[.int .i64 size, .slice p ws.length c] 29)).alloc (.cells #[] 152)).ownsRow w.heap.size 152 2 (.slice (some ⟨w.heap.size + 1, 0, none⟩) 0 0) 0 []) := hid (by
    have h := World.ownsRow_made (w.alloc (.cells #[.int .i64 size, .slice p ws.length c] 29)) #[] 0 (base := w.heap.size) (e := 152) (size := 2) (by simp) (Nat.zero_le _) rfl
    simpa using h)
  go_enter Tryd.func50, Tryd.ntmps50
  go_wp2_with (go_at_call 105; refine (CR.out _ _ (HA.out.on HW.out)).mono ?_; rintro e w1 ⟨sv1, rfl, hb1, _⟩; refine Hid.out ?_)
  refine hid ?_
  have k0 := hb1.cell (p := ⟨w.heap.size, 0, none⟩) (by simp; omega)
  have HB1 := hid (HW.out.trans (hb1.mono HW.out.size))
  have HO1 := hid (own_below HOE.out hb1)
  clear hb1
  have HN1 := hid (CN.out _ _ (HBV.out.on HB1.out))
  cases ok
  · clear hf hsz
    go_wp2
    go_ret2
    exact ⟨_, rfl, HB1.out, HO1.out⟩
  · obtain ⟨hs1, hs2⟩ := hsz rfl
    by_cases hls : (l.length : Int) = size
    · rw [decide_eq_true (show 1 ≤ size ∧ size ≤ 20 ∧ (l.length : Int) = size from ⟨hs1, hs2, hls⟩)] at hf
      cases nb
      · clear hf
        go_wp2_with (go_at_call 106; refine HN1.out.mono ?_; rintro e w2 ⟨rfl, e2⟩; rw [e2]; clear e2 w2)
        go_ret2
        exact ⟨_, rfl, HB1.out, HO1.out⟩
      · have hcm : (cnt == 1000000000) = true := by simpa using hf
        clear hf
        go_wp2_with (go_at_call 106; refine HN1.out.mono ?_; rintro e w2 ⟨rfl, e2⟩; rw [e2]; clear e2 w2)
        go_ret2
        exact ⟨_, rfl, HB1.out, HO1.out⟩
    · clear hf
      go_wp2
      go_ret2
      exact ⟨_, rfl, HB1.out, HO1.out⟩
end Go.Proofs.YtphabggmbdpibaaDoor

namespace Go.Proofs.YtphabggmbdpibaaDoor
open Go.RowKit
open Go.Lib (hid)

/-- Numbers as writes from a place on. -/
def wsOf (start : Nat) (C : List Int) : List (Nat × Int) := (List.range C.length).map fun j => (start + j, C.getD j 0)

theorem wsOf_len (start : Nat) (C : List Int) : (wsOf start C).length = C.length := by simp [wsOf]

theorem wsOf_at (start : Nat) (C : List Int) (j : Nat) (h : j < C.length) : (wsOf start C)[j]? = some (start + j, C.getD j 0) := by simp [wsOf, h]

theorem tells_wsOf (start : Nat) (l : List Int) (k c : Int) : tells start l.length (pad20 l) k c = wsOf start (0 :: (l ++ [c])) ++ [(start, k)] := by
  refine List.ext_getElem? fun j => ?_
  have hlen : (wsOf start (0 :: (l ++ [c]))).length = l.length + 2 := by rw [wsOf_len]; simp
  by_cases h0 : j = 0
  · subst h0
    rw [List.getElem?_append_left (by omega), wsOf_at _ _ _ (by simp)]
    rfl
  · by_cases h1 : j < l.length + 1
    · obtain ⟨i, rfl⟩ : ∃ i, j = i + 1 := ⟨j - 1, by omega⟩
      rw [tells_mid _ _ _ _ _ i (by omega), List.getElem?_append_left (by omega), wsOf_at _ _ _ (by simp; omega)]
      have e1 : (pad20 l).getD i 0 = l.getD i 0 := by unfold pad20; simp [List.getD, List.getElem?_append_left (show i < l.length by omega)]
      have e2 : (0 :: (l ++ [c])).getD (i + 1) 0 = l.getD i 0 := by simp [List.getD, List.getElem?_append_left (show i < l.length by omega)]
      rw [e1, e2, show start + 1 + i = start + (i + 1) by omega]
    · by_cases h2 : j = l.length + 1
      · subst h2
        rw [tells_cnt, List.getElem?_append_left (by omega), wsOf_at _ _ _ (by simp)]
        have e2 : (0 :: (l ++ [c])).getD (l.length + 1) 0 = c := by simp [List.getD]
        rw [e2, show start + 1 + l.length = start + (l.length + 1) by omega]
      · by_cases h3 : j = l.length + 2
        · subst h3
          rw [tells_chk, List.getElem?_append_right (by omega), hlen]
          simp
        · rw [List.getElem?_eq_none (by rw [tells_len]; omega), List.getElem?_eq_none (by rw [List.length_append, hlen]; simp; omega)]

theorem putW_eq (st : Nat) (l : List Int) (c : Int) : putW st l c = flatW (wsOf st (0 :: (l ++ [c]))) ++ [(st : Int), 1 + (c + l.sum) % 999983] := by
  unfold putW
  rw [tells_wsOf]
  unfold flatW
  rw [List.flatMap_append]
  rfl

set_option maxRecDepth 20000 in
set_option maxHeartbeats 4000000 in
theorem specWrites_yes (h : Nat) (l : List Int) (hh : h = l.length + 2) (h1 : 1 ≤ l.length) (h20 : l.length ≤ 20) (hln : Numb l) (ws : List Int) (hws : ws.length = 2 * h) (hnb : Numb ws) (i : Nat) (hi : i = 0 ∨ i = 1) (hst : (bestOf ws h 2).1 = i) (cnt : Int) (hro : (readOut l.length ws).2 = (cnt, true)) (hmx : cnt ≠ 1000000000) (hbd : 0 ≤ cnt ∧ cnt ≤ 1000000000) (a b : Value) (w : World) (ha : RowIn w a ws) (hb : RowIn w b l) (hnil : ∀ c, b = .slice none l.length c → c = 0) :
    Calls Tryd.prog 50 #[.agg #[.int .i64 l.length, a], b] w fun e w' => ∃ sv, e = .returned (.tuple #[sv, .bool true]) ∧ Below w.heap.size w w' ∧ w'.ownsRow w.heap.size 152 2 sv (l.length + 3) (ints (putW (if i = 0 then h else 0) l (cnt + 1))) := by
  have HA := hid ha
  have HBV := hid hb
  have HNIL := hid hnil
  have CR := hid (fun a W (hW : RowIn W a ws) => read_spec l.length ws (by omega) a W hW)
  unfold ReadPost at CR
  rw [hro] at CR
  have CN := hid (fun b W (hW : RowIn W b l) => l3Numbers_calls l (by omega) b W hW)
  rw [numbB_iff.2 hln] at CN
  have CS := hid (fun a W (hW : RowIn W a ws) => l3Stands_calls l.length h hh h1 h20 ws hws hnb a W hW)
  rw [hst] at CS
  generalize (readOut l.length ws).1 = R at *
  obtain ⟨C, hCd⟩ : ∃ C : List Int, C = 0 :: (l ++ [cnt + 1]) := ⟨_, rfl⟩
  have hCl : C.length = l.length + 2 := by rw [hCd]; simp
  have CK := hid (fun a W (hW : RowIn W a C) => l3Check_calls C (cnt + 1 + l.sum) (by rw [hCd]; simp; omega) (by omega) (by omega) (fun x hx => by
    rw [hCd] at hx
    have hx : x ∈ l ++ [cnt + 1] := hx
    rcases List.mem_append.1 hx with hx | hx
    · have := hln x hx; omega
    · obtain rfl := List.mem_singleton.1 hx; omega) a W hW)
  have HCD := hid hCd
  have HIC : Hid (ints [0] ++ ints l ++ ints [cnt + 1] = ints C) := hid (by rw [hCd]; simp [ints])
  clear hCd
  obtain ⟨st, hst2⟩ : ∃ st : Nat, st = if i = 0 then h else 0 := ⟨_, rfl⟩
  have hst22 : st ≤ 22 := by rw [hst2]; split <;> omega
  have e0 : IntKind.i64.wrap (1 - (i : Int)) = 1 - (i : Int) := by rw [IntKind.wrap_i64]; omega
  have e1 : IntKind.i64.wrap ((l.length : Int) + 2) = (l.length : Int) + 2 := by rw [IntKind.wrap_i64]; omega
  have e3 : IntKind.i64.wrap ((1 - (i : Int)) * ((l.length : Int) + 2)) = (st : Int) := by
    rw [show (l.length : Int) + 2 = (h : Int) by omega]
    rcases hi with rfl | rfl
    · rw [if_pos rfl] at hst2; rw [IntKind.wrap_i64, show (1 - ((0 : Nat) : Int)) * (h : Int) = (h : Int) by simp]; omega
    · rw [if_neg (by decide)] at hst2; rw [IntKind.wrap_i64, show (1 - ((1 : Nat) : Int)) * (h : Int) = 0 by simp]; omega
  rw [← hst2]
  have b4 : (cnt == 1000000000) = false := by simpa using hmx
  have b5 : IntKind.i64.wrap (cnt + 1) = cnt + 1 := by rw [IntKind.wrap_i64]; omega
  obtain ⟨p, c, rfl, hc, _⟩ := ha
  obtain ⟨q, d, rfl, _, _⟩ := hb
  have HW : Hid (Below w.heap.size w ((w.alloc (.cells #[.int .i64 l.length, .slice p ws.length c] 29)).alloc (.cells #[] 152))) := hid (((Below.refl _ _).alloc (Nat.le_refl _) _).alloc (by simp) _)
  have HOE : Hid (((w.alloc (.cells #[.int .i64 l.length, .slice p ws.length c] 29)).alloc (.cells #[] 152)).ownsRow w.heap.size 152 2 (.slice (some ⟨w.heap.size + 1, 0, none⟩) 0 0) 0 []) := hid (by
    have h := World.ownsRow_made (w.alloc (.cells #[.int .i64 l.length, .slice p ws.length c] 29)) #[] 0 (base := w.heap.size) (e := 152) (size := 2) (by simp) (Nat.zero_le _) rfl
    simpa using h)
  have HC0 : Hid (((w.alloc (.cells #[.int .i64 l.length, .slice p ws.length c] 29)).alloc (.cells #[] 152)).heap[w.heap.size]? = some (.cells #[.int .i64 l.length, .slice p ws.length c] 29)) := hid (heap_alloc2_old _ _ _)
  have HCL := hid hCl
  have hC22 : C.length ≤ 22 := by omega
  have hC2 : 2 ≤ C.length := by omega
  clear hws hnb hst hro hmx hbd hln hnil hst2 hi hh hCl
  go_enter Tryd.func50, Tryd.ntmps50
  go_wp2_with (go_at_call 105; refine (CR.out _ _ (HA.out.on HW.out)).mono ?_; rintro e w1 ⟨sv1, rfl, hb1, _⟩; refine Hid.out ?_)
  refine hid ?_
  have hz1 := hb1.size
  simp only [World.size_alloc] at hz1
  have HC1 := hid ((hb1.block w.heap.size (by simp; omega)).trans HC0.out)
  obtain ⟨k0, k1⟩ := var_cells HC1.out
  have HB1 := hid (HW.out.trans (hb1.mono HW.out.size))
  have HO1 := hid (own_below HOE.out hb1)
  clear hb1
  go_wp2_with (go_at_call 106; refine (CN.out _ _ (HBV.out.on HB1.out)).mono ?_; rintro e w2 ⟨rfl, e2⟩; rw [e2]; clear e2 w2; refine Hid.out ?_)
  refine hid ?_
  clear k0 k1
  have k0 : ∀ W : World, Below w1.heap.size w1 W → W.cell? ⟨w.heap.size, 0, none⟩ = some (.int .i64 l.length) := fun W hW => (var_cells ((hW.block _ (by omega)).trans HC1.out)).1
  have k1 : ∀ W : World, Below w1.heap.size w1 W → W.cell? ⟨w.heap.size, 1, none⟩ = some (.slice p ws.length c) := fun W hW => (var_cells ((hW.block _ (by omega)).trans HC1.out)).2
  have CS1 := hid (fun W (hW : Below w1.heap.size w1 W) => CS.out _ W ((HA.out.on HB1.out).on hW))
  have q0 := k0 w1 (Below.refl _ _)
  go_wp2
  go_region_held3 (fun w' => Below w1.heap.size w1 w') (first | with_reducible assumption | exact Below.drew (Below.refl _ _) | exact below_step (by assumption) (Nat.le_refl _) (by assumption)) ((go_at_call 107; refine (CS1.out _ (by assumption)).mono ?_; rintro e w2 ⟨rfl, hb2⟩))
  rename_i hS
  have hz2 := hS.size
  have HO2 := hid (own_below HO1.out hS)
  have HB2 := hid (HB1.out.trans (hS.mono HB1.out.size))
  have HL2 : Hid ((w2.alloc (.cells #[.int .i64 0] 2)).ownsRow w2.heap.size 2 1 (.slice (some ⟨w2.heap.size, 0, none⟩) 1 1) 1 (ints [0])) := hid (World.ownsRow_lit (base := w2.heap.size) (e := 2) (size := 1) w2 #[.int .i64 0] 1 (Nat.le_refl _) (by decide) rfl)
  have HK2 : Hid (Below w2.heap.size w2 (w2.alloc (.cells #[.int .i64 0] 2))) := hid ((Below.refl _ _).alloc (Nat.le_refl _) _)
  clear hS hb2 k0 k1 q0 e0 e1 e3
  go_wp2_with (first | (at_builtin; refine wp_append_ints rfl _ _ rfl w2.heap.size _ 1 _ (by rfl) HL2.out _ l (by rfl) (HBV.out.on (HB2.out.trans (HK2.out.mono HB2.out.size))) (by omega) (by simp) HNIL.out ?_; intro v1 w3 ho3 hg3 _; refine Hid.out ?_))
  refine hid ?_
  have hz3 := hg3.size
  simp only [World.size_alloc] at hz3
  have HB3 := hid (HK2.out.grown hg3 (by simp) (fun k hk => by cases hk; exact Nat.le_refl _))
  have HO3 := hid ho3
  clear hg3 ho3
  go_wp2_with (first | (at_builtin; refine wp_append_ints rfl _ _ rfl w2.heap.size _ (1 + l.length) _ (by rfl) (own_below HO3.out ((Below.refl _ _).alloc (Nat.le_refl _) _)) _ [cnt + 1] (by rfl) (row_lit _ _ _) (by simp; omega) (by simp; omega) (fun c h => by cases h) ?_; intro v2 w4 ho4 hg4 _; refine Hid.out ?_))
  refine hid ?_
  have hz4 := hg4.size
  simp only [World.size_alloc] at hz4
  rw [HIC.out, show 1 + l.length + [cnt + 1].length = C.length by have := HCL.out; simp; omega] at ho4
  have HB4 := hid ((HB3.out.alloc (by omega) _).grown hg4 (by simp; omega) (fun k hk => (HO3.out.lt k hk).1))
  obtain ⟨g4, c4, rfl, hgb, hgl⟩ := own_form ho4 (by omega)
  have HC4 := hid ho4
  have HOut4 := hid (own_below HO2.out HB4.out)
  have HW4 := hid (HB2.out.trans (HB4.out.mono HB2.out.size))
  have hne4 : (Value.slice (some ⟨w.heap.size + 1, 0, none⟩) 0 0).ownBlock ≠ some g4 := by
    intro e
    have e2 : w.heap.size + 1 = g4 := Option.some.inj e
    omega
  have HNE4 := hid hne4
  clear hg4 ho4 hne4
  go_wp2
  go_loopw [6, 12] (fun ov iv wr => ∃ j : Nat, j ≤ C.length ∧ iv = .int .i64 j ∧ Below w.heap.size w wr ∧ wr.ownsRow w.heap.size 152 2 ov j (ints (flatW ((wsOf st C).take j))) ∧ wr.ownsRow w2.heap.size 2 1 (.slice (some ⟨g4, 0, none⟩) C.length c4) C.length (ints C) ∧ ov.ownBlock ≠ some g4) (fun _ iv _ => C.length - (RowKit.intOf iv).toNat)
  case atStart => exact ⟨0, Nat.zero_le _, rfl, HW4.out, HOut4.out, HC4.out, HNE4.out⟩
  case round =>
    obtain ⟨j, hj, rfl, hbel, hout, hcr, hne⟩ := hrel
    have HBE := hid hbel
    have HOU := hid hout
    have HCR := hid hcr
    have hg4r := (hcr.lt g4 rfl).2
    have hzr := hbel.size
    by_cases hlt : j < C.length
    · have hc1 := hcr.cellAt j (by omega)
      rw [ints_at C j hlt] at hc1
      have hgd : C.getD j 0 = C[j] := by simp [List.getD, hlt]
      have HFT := hid (flatW_take (wsOf st C) j (st + j) (C.getD j 0) (wsOf_at st C j hlt))
      rw [hgd] at HFT
      have HX := hid (own_slice hout)
      clear hbel hout hcr hgd
      generalize C[j] = x at *
      obtain ⟨pv, cv, rfl⟩ := HX.out
      have j1 : (0 : Int) ≤ (j : Int) := by omega
      have j2 : (j : Int) < (C.length : Int) := by omega
      have j3 : IntKind.i64.wrap ((st : Int) + (j : Int)) = (st : Int) + (j : Int) := by rw [IntKind.wrap_i64]; omega
      have HJ : Hid (j ≤ 100000000) := hid (by omega)
      have HWZ : Hid (w.heap.size ≤ wr.heap.size + 1) := hid (by omega)
      go_wp2_with (first | (at_builtin; refine wp_append_write rfl _ _ rfl w.heap.size _ j _ (by rfl) (HOU.out.alloc _) wr.heap.size 1 ((st : Int) + (j : Int)) x (by rfl) (by simp [go_sem]) (by simp [go_sem]) HJ.out (by simp only [World.size_alloc]; exact HWZ.out) ?_; intro v5 w5 ho5 hg5 hv5; refine Hid.out ?_))
      refine hid ?_
      have HN5 : Hid (w5.ownsRow w.heap.size 152 2 v5 (j + 1) (ints (flatW ((wsOf st C).take (j + 1))))) := hid (by rw [HFT.out, Int.natCast_add]; exact ho5)
      have HB5 := hid ((HBE.out.alloc HBE.out.size _).grown hg5 (by simp; omega) (fun k hk => (HOU.out.lt k hk).1))
      have HC5 := hid ((HCR.out.alloc _).kept hg5 (Or.inr (fun e => hne e.symm)))
      have HNE5 : Hid (v5.ownBlock ≠ some g4) := hid (by
        rcases hv5 with h | h
        · rw [h]; exact hne
        · rw [h]; intro e
          have e2 := Option.some.inj e
          simp only [World.size_alloc] at e2
          omega)
      clear ho5 hg5 hv5
      go_wp2
      go_roundw
      case rel => exact ⟨j + 1, by omega, by go_num, HB5.out, HN5.out, HC5.out, HNE5.out⟩
      case measure => simp [RowKit.intOf]; omega
    · have hie : j = C.length := by omega
      subst hie
      obtain ⟨pv, cv, rfl⟩ := own_slice hout
      rw [List.take_of_length_le (by rw [wsOf_len]; omega)] at hout
      have HOU2 := hid hout
      have HRC := hid (row_in_own hcr)
      have HJ : Hid (C.length ≤ 100000000) := hid (by omega)
      have HWZ : Hid (w.heap.size ≤ wr.heap.size + 1) := hid (by omega)
      clear hbel hout hcr
      go_wp2_with (first | (go_at_call 108; refine (CK.out _ _ HRC.out).mono ?_; rintro e w6 ⟨rfl, e6⟩; rw [e6]; clear e6 w6) | (at_builtin; refine wp_append_write rfl _ _ rfl w.heap.size _ C.length _ (by rfl) (HOU2.out.alloc _) wr.heap.size 1 (st : Int) (1 + (cnt + 1 + l.sum) % 999983) (by rfl) (by simp [go_sem]) (by simp [go_sem]) HJ.out (by simp only [World.size_alloc]; exact HWZ.out) ?_; intro v7 w7 ho7 hg7 _; refine Hid.out ?_))
      refine hid ?_
      have HB7 := hid ((HBE.out.alloc HBE.out.size _).grown hg7 (by simp; omega) (fun k hk => (HOU2.out.lt k hk).1))
      have HO7 := hid ho7
      clear ho7 hg7
      go_wp2
      go_ret2
      refine ⟨v7, rfl, HB7.out, ?_⟩
      rw [putW_eq, ← HCD.out, show l.length + 3 = C.length + 1 by have := HCL.out; omega]
      exact HO7.out
end Go.Proofs.YtphabggmbdpibaaDoor

namespace Go.Proofs.YtphabggmbdpibaaDoor
open Go.RowKit
open Go.Lib (hid)

/-- What NvWrites answers: how many writes, their cells, and whether. -/
def writesOut (size : Int) (ws l : List Int) : Nat × List Int × Bool :=
  if putB size ws l then (l.length + 3, putW (if (bestOf ws (l.length + 2) 2).1 = 0 then l.length + 2 else 0) l ((readOut size ws).2.1 + 1), true) else (0, [], false)

def WritesPost (size : Int) (ws l : List Int) (w : World) (e : Ending) (w' : World) : Prop :=
  ∃ sv, e = .returned (.tuple #[sv, .bool (writesOut size ws l).2.2]) ∧ Below w.heap.size w w' ∧ w'.ownsRow w.heap.size 152 2 sv (writesOut size ws l).1 (ints (writesOut size ws l).2.1)

theorem read_stood (m : Nat) (ws : List Int) (hf : formB m ws = true) (i : Nat) (hb : (bestOf ws (m + 2) 2).1 = (i : Int)) : (readOut m ws).2 = (cpC (copyOf ws (m + 2) i), true) := by
  unfold readOut
  have ht : (m : Int).toNat = m := by omega
  rw [if_pos hf, ht, hb, if_neg (by omega), show (i : Int).toNat = i by omega]

theorem read_fell (m : Nat) (ws : List Int) (hb : (bestOf ws (m + 2) 2).1 < 0) : (readOut m ws).2.2 = false := by
  unfold readOut
  have ht : (m : Int).toNat = m := by omega
  split
  · rw [ht, if_pos hb]
  · rfl

theorem stood (ws : List Int) (h : Nat) (hs : (standP (wholeL (ws.take h)) (wholeL (ws.drop h)) (cpC (ws.take h)) (cpC (ws.drop h))).2 = true) : ∃ i : Nat, (i = 0 ∨ i = 1) ∧ (bestOf ws h 2).1 = (i : Int) ∧ standP (wholeL (ws.take h)) (wholeL (ws.drop h)) (cpC (ws.take h)) (cpC (ws.drop h)) = ((i : Int), true) := by
  have hb := bestOf_stand ws h
  rw [if_pos hs] at hb
  have hq0 : 0 ≤ (standP (wholeL (ws.take h)) (wholeL (ws.drop h)) (cpC (ws.take h)) (cpC (ws.drop h))).1 := by unfold standP; split <;> (show (0 : Int) ≤ _; simp)
  generalize standP (wholeL (ws.take h)) (wholeL (ws.drop h)) (cpC (ws.take h)) (cpC (ws.drop h)) = q at *
  have hfew := best_few ws h
  obtain ⟨q1, q2⟩ := q
  simp only at hs hb hq0
  subst hs
  rcases hfew with h | h | h
  · exfalso; omega
  · exact ⟨0, Or.inl rfl, h, by rw [← hb, h]; rfl⟩
  · exact ⟨1, Or.inr rfl, h, by rw [← hb, h]; rfl⟩

theorem fell (ws : List Int) (h : Nat) (hs : (standP (wholeL (ws.take h)) (wholeL (ws.drop h)) (cpC (ws.take h)) (cpC (ws.drop h))).2 = false) : (bestOf ws h 2).1 < 0 := by
  rw [bestOf_stand ws h, if_neg (by rw [hs]; decide)]
  decide

theorem copyOf_numb {ws : List Int} (h : Numb ws) (k : Nat) (i : Nat) : Numb (copyOf ws k i) := by
  unfold copyOf
  split
  · exact numb_take h k
  · exact numb_drop h k

theorem writes_impl (size : Int) (ws l : List Int) (hn : ws.length ≤ 1048576) (hl : l.length ≤ 1048576) (a b : Value) (w : World) (ha : RowIn w a ws) (hb : RowIn w b l) : Calls Tryd.prog 215 #[.agg #[.int .i64 size, a], b] w (WritesPost size ws l w) := by
  unfold WritesPost writesOut
  by_cases hfv : (formB size ws && valsB l size) = true
  · obtain ⟨hf, hv⟩ := (Bool.and_eq_true _ _).mp hfv
    obtain ⟨v1, v2, v3, v4⟩ := valsB_iff.1 hv
    subst v3
    obtain ⟨h1, h2, h3, h4⟩ := formB_iff.1 hf
    cases hs : (standP (wholeL (ws.take (l.length + 2))) (wholeL (ws.drop (l.length + 2))) (cpC (ws.take (l.length + 2))) (cpC (ws.drop (l.length + 2)))).2 with
    | true =>
      obtain ⟨i, hi, hbi, hsi⟩ := stood ws _ hs
      have hro := read_stood l.length ws hf i hbi
      have hbd := cpC_bd (copyOf_numb h4 (l.length + 2) i)
      have hcp : copyOf ws (l.length + 2) i = if i = 0 then ws.take (l.length + 2) else ws.drop (l.length + 2) := by
        rcases hi with rfl | rfl <;> rfl
      by_cases hmx : cpC (copyOf ws (l.length + 2) i) = 1000000000
      · have hp : putB l.length ws l = false := by unfold putB; rw [hro, hmx]; simp
        rw [hp, if_neg (by decide)]
        exact (nvWrites_max l.length (l.length + 2) rfl (by omega) (by omega) ws (by omega) h4 i hi hsi _ hcp hmx l hv hl a b w ha hb).mono fun e w' ⟨he, hb⟩ => ⟨_, he, hb, World.ownsRow_nil _ _ _ _⟩
      · have hp : putB l.length ws l = true := by unfold putB; rw [hro, hv]; simpa using hmx
        rw [hp, if_pos rfl, hbi, hro]
        have hif : (if i = 0 then l.length + 2 else 0) = (if (i : Int) = 0 then l.length + 2 else 0) := by rcases hi with rfl | rfl <;> rfl
        rw [← hif]
        exact nvWrites_yes l.length (l.length + 2) rfl (by omega) (by omega) ws (by omega) h4 i hi hsi _ hcp hmx hbd l rfl v4 a b w ha hb
    | false =>
      have hp : putB l.length ws l = false := by unfold putB; rw [read_fell l.length ws (fell ws _ hs)]; rfl
      rw [hp, if_neg (by decide)]
      exact (nvWrites_none l.length (l.length + 2) rfl (by omega) (by omega) ws (by omega) h4 hs l hv hl a b w ha hb).mono fun e w' ⟨he, hb⟩ => ⟨_, he, hb, World.ownsRow_nil _ _ _ _⟩
  · have hfv : (formB size ws && valsB l size) = false := by simpa using hfv
    have hp : putB size ws l = false := by
      unfold putB
      cases hf : formB size ws with
      | false => unfold readOut; rw [hf]; rfl
      | true => rw [hf] at hfv; rw [show valsB l size = false by simpa using hfv]; simp
    rw [hp, if_neg (by decide)]
    exact (nvWrites_no size ws l hn hl hfv a b w ha hb).mono fun e w' ⟨he, hb⟩ => ⟨_, he, hb, World.ownsRow_nil _ _ _ _⟩

theorem writes_spec (size : Int) (ws l : List Int) (hn : ws.length ≤ 1048576) (hl : l.length ≤ 1048576) (a b : Value) (w : World) (ha : RowIn w a ws) (hb : RowIn w b l) (hnil : ∀ c, b = .slice none l.length c → c = 0) : Calls Tryd.prog 50 #[.agg #[.int .i64 size, a], b] w (WritesPost size ws l w) := by
  unfold WritesPost writesOut
  cases hp : putB size ws l with
  | false =>
    rw [if_neg (by decide)]
    exact specWrites_no size ws l hn hl hp a b w ha hb
  | true =>
    rw [if_pos rfl]
    have hp2 := hp
    unfold putB at hp2
    simp only [Bool.and_eq_true] at hp2
    obtain ⟨⟨hok, hv⟩, hmx⟩ := hp2
    obtain ⟨v1, v2, v3, v4⟩ := valsB_iff.1 hv
    subst v3
    have hf : formB l.length ws = true := by
      cases hf : formB l.length ws with
      | true => rfl
      | false => unfold readOut at hok; rw [hf] at hok; cases hok
    obtain ⟨h1, h2, h3, h4⟩ := formB_iff.1 hf
    cases hs : (standP (wholeL (ws.take (l.length + 2))) (wholeL (ws.drop (l.length + 2))) (cpC (ws.take (l.length + 2))) (cpC (ws.drop (l.length + 2)))).2 with
    | false => rw [read_fell l.length ws (fell ws _ hs)] at hok; cases hok
    | true =>
      obtain ⟨i, hi, hbi, hsi⟩ := stood ws _ hs
      have hro := read_stood l.length ws hf i hbi
      have hbd := cpC_bd (copyOf_numb h4 (l.length + 2) i)
      rw [hro] at hmx
      have hmx2 : cpC (copyOf ws (l.length + 2) i) ≠ 1000000000 := by simpa using hmx
      rw [hbi, hro]
      have hif : (if i = 0 then l.length + 2 else 0) = (if (i : Int) = 0 then l.length + 2 else 0) := by rcases hi with rfl | rfl <;> rfl
      rw [← hif]
      exact specWrites_yes (l.length + 2) l rfl (by omega) (by omega) v4 ws (by omega) h4 i hi hbi _ hro hmx2 hbd a b w ha hb hnil
end Go.Proofs.YtphabggmbdpibaaDoor

namespace Go.Proofs.YtphabggmbdpibaaDoor
open Go.RowKit
open Go.Lib (hid)

theorem writesOut_few (s : Int) (ws l : List Int) (hl : l.length ≤ 1048576) : (writesOut s ws l).1 ≤ 1048579 ∧ (writesOut s ws l).2.1.length = 2 * (writesOut s ws l).1 := by
  unfold writesOut
  split
  · exact ⟨by show l.length + 3 ≤ _; omega, by show (putW _ _ _).length = 2 * (l.length + 3); rw [putW_len]⟩
  · exact ⟨Nat.zero_le _, rfl⟩

/-- What NvPut answers: the size, the words, and whether. -/
def putOut (s : Int) (l vs : List Int) (cut : Int) : Int × List Int × Bool :=
  if (writesOut s l vs).2.2 = true then applyOut s l (writesOut s l vs).1 (writesOut s l vs).2.1 cut else (0, [], false)

def PutPost (s : Int) (l vs : List Int) (cut : Int) (w : World) (e : Ending) (w' : World) : Prop :=
  ∃ sv, e = .returned (.tuple #[.agg #[.int .i64 (putOut s l vs cut).1, sv], .bool (putOut s l vs cut).2.2]) ∧ Below w.heap.size w w' ∧ w'.ownsRow w.heap.size 2 1 sv (putOut s l vs cut).2.1.length (ints (putOut s l vs cut).2.1)

set_option maxRecDepth 20000 in
set_option maxHeartbeats 2000000 in
theorem put_impl (s : Int) (l vs : List Int) (hl : l.length ≤ 1048576) (hv : vs.length ≤ 1048576) (cut : Int) (hcn : cut ≤ 9223372036854775807) (a b : Value) (w : World) (ha : RowIn w a l) (hb : RowIn w b vs) :
    Calls Tryd.prog 214 #[.agg #[.int .i64 s, a], b, .int .i64 cut] w (PutPost s l vs cut w) := by
  unfold PutPost putOut
  have HA := hid ha
  have HB := hid hb
  have CW := hid (fun a W ha hb => writes_impl s l vs hl hv a b W ha hb)
  unfold WritesPost at CW
  obtain ⟨_, hFl⟩ := writesOut_few s l vs hv
  generalize (writesOut s l vs).1 = n at *
  generalize (writesOut s l vs).2.1 = F at *
  generalize (writesOut s l vs).2.2 = ok at *
  have HFL := hid hFl
  obtain ⟨p, c, rfl, _, _⟩ := ha
  obtain ⟨q, d, rfl, _, _⟩ := hb
  have HX := hid (boxes_first w #[.int .i64 s, .slice p l.length c])
  obtain ⟨W0, hW0⟩ : ∃ W0, W0 = (w.alloc (.cells #[.int .i64 s, .slice p l.length c] 29)).alloc (.cells #[.int .i64 0, .slice none 0 0] 29) := ⟨_, rfl⟩
  rw [← hW0] at HX
  have HW0 := hid hW0
  clear hW0 hFl
  cases ok with
  | false =>
    rw [if_neg (by decide)]
    go_enter Tryd.func214, Tryd.ntmps214
    go_wp2_with (go_at_call 215; rw [← HW0.out]; refine (CW.out _ _ (HA.out.on HX.out.below) (HB.out.on HX.out.below)).mono ?_; rintro e w1 ⟨sv, rfl, hb1, _⟩; refine Hid.out ?_)
    refine hid ?_
    have HX1 := hid (HX.out.on hb1)
    obtain ⟨k2, k3⟩ := var_cells HX1.out.z
    have f2 := var_thaw HX1.out.z 0
    have f3 := var_thaw HX1.out.z 1
    have hz := HX1.out.size
    clear hb1
    go_wp2
    exact bodyPost_ret (v := .tuple #[.agg #[.int .i64 0, .slice none 0 0], .bool false]) (by simp [results, Tryd.results214, go_sem, k2, k3]) rfl ⟨_, rfl, HX1.out.stays _ _, World.ownsRow_nil _ _ _ _⟩
  | true =>
    rw [if_pos rfl]
    have CA := hid (fun a b W ha hb => apply_impl s l hl n F cut hcn a b W ha hb)
    unfold ApplyPost at CA
    generalize (applyOut s l n F cut).1 = rs at *
    generalize (applyOut s l n F cut).2.1 = L at *
    generalize (applyOut s l n F cut).2.2 = rb at *
    go_enter Tryd.func214, Tryd.ntmps214
    go_wp2_with (go_at_call 215; rw [← HW0.out]; refine (CW.out _ _ (HA.out.on HX.out.below) (HB.out.on HX.out.below)).mono ?_; rintro e w1 ⟨sv, rfl, hb1, ho1⟩; refine Hid.out ?_)
    refine hid ?_
    have HX1 := hid (HX.out.on hb1)
    have HR1 := hid (wrow_own HFL.out ho1)
    obtain ⟨k0, k1⟩ := var_cells HX1.out.v
    clear hb1 ho1
    go_wp2_with (go_at_call 216; refine (CA.out _ _ _ (HA.out.on HX1.out.below) HR1.out).mono ?_; rintro e w2 ⟨sv2, rfl, hb2, ho2⟩; refine Hid.out ?_)
    refine hid ?_
    obtain ⟨p2, c2, rfl, _, _⟩ := row_in_own ho2
    have HX2 := hid (HX1.out.on hb2)
    have HO2 := hid ho2
    have hz1 := HX1.out.size
    have hz := HX2.out.size
    obtain ⟨k2, k3⟩ := var_cells HX2.out.z
    have f2 := var_thaw HX2.out.z 0
    have f3 := var_thaw HX2.out.z 1
    clear hb2 ho2 k0 k1
    go_wp2
    refine bodyPost_ret (v := .tuple #[.agg #[.int .i64 rs, .slice p2 L.length c2], .bool rb]) (by simp [results, Tryd.results214, go_sem, k2, k3]) rfl ⟨_, rfl, HX2.out.stays _ _, ?_⟩
    have h6 := ownsRow_setCell_below (ownsRow_setCell_below HO2.out (a := ⟨w.heap.size + 1, 0, none⟩) (by show w.heap.size + 1 < _; omega) (.int .i64 rs)) (a := ⟨w.heap.size + 1, 1, none⟩) (by show w.heap.size + 1 < _; omega) (.slice p2 L.length c2)
    exact own_raise h6 (by omega)

theorem putOut_few (s : Int) (l vs : List Int) (cut : Int) (hl : l.length ≤ 1048576) : (putOut s l vs cut).2.1.length ≤ 1048576 := by
  unfold putOut
  split
  · unfold applyOut
    split
    · show (doneW _ l _).length ≤ _
      rw [doneW_len]
      exact hl
    · exact Nat.zero_le _
  · exact Nat.zero_le _
end Go.Proofs.YtphabggmbdpibaaDoor
