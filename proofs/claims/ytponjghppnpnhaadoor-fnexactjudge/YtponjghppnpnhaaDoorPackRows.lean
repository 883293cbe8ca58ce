/- Laid together: RowKeys, RowsMap, RowsData, RowsRead. -/
import Derived.Test.YtponjghppnpnhaaDoorPackPl
import Derived.Maps.OwnSet
import Derived.Maps.OwnOps
import Derived.DeepKeys4
import Derived.MapViews
import Derived.ChangeSame
import Derived.Test.YtponjghppnpnhaaDoorPolSpec

namespace Go.Proofs.YtponjghppnpnhaaDoor
open Go.RowKit Go.WideMaps Go.Maps Go.ChangeShapes Go.WideShapes Go.ChangeAt
open Go.Lib (hid)

theorem rk_laid : laidOutB Tryd.prog = true := by kernel_rfl
theorem rk_row : (178 : TypeId) < Tryd.prog.types.size := of_decide_eq_true (by kernel_rfl)
theorem rk_deep : Tryd.prog.keyTypeAt (Tryd.prog.types.size + 1) 178 = true := by kernel_rfl
theorem rk_wide : (match Tryd.prog.underlying 178 with | some (.array _ _) | some (.struct _) => true | _ => false) = true := by kernel_rfl
theorem rk_cells : Tryd.prog.cellsOf 178 = 2 := by kernel_rfl
theorem rk_struct : ∃ fs, Tryd.prog.underlying 178 = some (.struct fs) := ⟨_, Tryd.underlying178⟩
set_option maxRecDepth 100000 in
theorem rowKeyed : Keyed Tryd.prog 178 := Keyed.of_law (deep_law_laid rk_laid (m := 3) (by omega) rk_row (by kernel_rfl) rk_wide)

theorem rk_formed (a : Int) (s : ByteArray) : (Value.agg #[.int .i64 a, .string s]).formed Tryd.prog 178 = true := by
  obtain ⟨fs, hu⟩ := rk_struct
  simp [Value.formed, hu, rk_cells]

/-- The literal of a key. -/
def rk (a : Int) (s : ByteArray) : Lit := (DataW.agg [.lit (.int .i64 a), .lit (.string s.data.toList)] : DataW Unit).asKey

set_option maxRecDepth 100000 in
theorem rk_key (w : World) {a : Int} (ha : -9223372036854775808 ≤ a ∧ a ≤ 9223372036854775807) {s : ByteArray} (hs : s.size ≤ maxLen) : keyOf Tryd.prog 178 (.agg #[.int .i64 a, .string s]) = some (rk a s) := by
  have hw : (Lit.int .i64 a).wf = true := by
    have h1 : IntKind.i64.min = -9223372036854775808 := rfl
    have h2 : IntKind.i64.max = 9223372036854775807 := rfl
    simp [Lit.wf]
    omega
  have c0 : Tryd.prog.cellsOf 2 = 1 := by kernel_rfl
  have c1 : Tryd.prog.cellsOf 9 = 1 := by kernel_rfl
  have h := trod_struct2_mk (enc := fun _ => ()) (P := Tryd.prog) (w := w) (base := 0) (spare := fun _ => true) (held := true) (n := 1) (cs := [.int .i64 a, .string s]) (y0 := (.lit (.int .i64 a), [])) (y1 := (.lit (.string s.data.toList), []))
    (show Tryd.prog.underlying 178 = some (.struct #[_, _]) from Tryd.underlying178) rk_cells.symm
    (by simp only [c0]; exact trod_int_mk 0 Tryd.underlying2 hw)
    (by simp only [c1]; show DataW.trod _ _ _ _ _ _ 1 9 [.string s] = _; simp [DataW.trod, Tryd.underlying9, hs])
  exact (keyOf_asKey rk_deep rk_wide (rk_formed a s) (d := .agg [.lit (.int .i64 a), .lit (.string s.data.toList)]) (ps := []) ⟨2, by simpa [Value.cells] using h⟩).1

theorem rk_inj (w : World) {a b : Int} {s t : ByteArray} (ha : -9223372036854775808 ≤ a ∧ a ≤ 9223372036854775807) (hb : -9223372036854775808 ≤ b ∧ b ≤ 9223372036854775807) (hs : s.size ≤ maxLen) (ht : t.size ≤ maxLen) (h : rk a s = rk b t) : a = b ∧ s = t := by
  have h1 := rk_key w ha hs
  have h2 := rk_key w hb ht
  rw [h] at h1
  have h3 := rowKeyed.inj h1 h2
  injection h3 with h3
  injection h3 with h3
  simp at h3
  exact h3
end Go.Proofs.YtponjghppnpnhaaDoor

namespace Go.Proofs.YtponjghppnpnhaaDoor
open Go.RowKit Go.WideMaps Go.Maps
open Go.Lib (hid)

theorem row4_cells {W : World} {b : Nat} {x0 x1 x2 x3 : Value} {t : TypeId} (h : W.heap[b]? = some (.cells #[x0, x1, x2, x3] t)) :
    W.cell? ⟨b, 0, none⟩ = some x0 ∧ W.cell? ⟨b, 1, none⟩ = some x1 ∧ W.cell? ⟨b, 2, none⟩ = some x2 ∧ W.cell? ⟨b, 3, none⟩ = some x3 :=
  ⟨(cell_of_row W b 0 _ _ _ h).trans rfl, (cell_of_row W b 1 _ _ _ h).trans rfl, (cell_of_row W b 2 _ _ _ h).trans rfl, (cell_of_row W b 3 _ _ _ h).trans rfl⟩

theorem row4_thaw {W : World} {b : Nat} {V : Array Value} {t : TypeId} (h : W.heap[b]? = some (.cells V t)) (o : Nat) : W.frozen? ⟨b, o, none⟩ = false := by simp [World.frozen?, h]

section
variable {H : Type}

/-- What a row with its place reads as. -/
def rowData (a : Int) (s : List UInt8) (b c : Int) : DataW H := .agg [.lit (.int .i64 a), .lit (.string s), .lit (.int .i64 b), .lit (.int .i64 c)]

/-- How a row with its place reads in the book. -/
def rowElem (v : Value) : Option (DataW H × List MemPlace) :=
  match v with
  | .agg cs => match cs.toList with
    | [.int .i64 a, .string s, .int .i64 b, .int .i64 c] => some (rowData a s.data.toList b c, [])
    | _ => none
  | _ => none

theorem rowElem_mk (a : Int) (s : ByteArray) (b c : Int) : rowElem (H := H) (.agg #[.int .i64 a, .string s, .int .i64 b, .int .i64 c]) = some (rowData a s.data.toList b c, []) := rfl

theorem rowElem_inv {v : Value} {z : DataW H × List MemPlace} (h : rowElem v = some z) :
    ∃ a s b c, v = .agg #[.int .i64 a, .string s, .int .i64 b, .int .i64 c] ∧ z.1 = rowData a s.data.toList b c := by
  cases v with
  | agg cs =>
    unfold rowElem at h
    dsimp only at h
    split at h
    · rename_i a s b c hcs
      injection h with h
      subst h
      exact ⟨a, s, b, c, by rw [← hcs], rfl⟩
    · cases h
  | _ => cases h

theorem row_zero (w : World) : (zeroValue 175).run Tryd.prog w = .ok (.agg #[.int .i64 0, .string ⟨#[]⟩, .int .i64 0, .int .i64 0]) w := by kernel_rfl

/-- A look-up in the book's rows. -/
theorem look_row (w : World) {ops : Array Oper} {rest : List Oper} {o : Oper} {a : Act} {Q : Exit → Act → World → Prop}
    (hg : o.guard = none) (m x : Operand) (hop : o.op = Op.lookup 117 m x true)
    (b n : Nat) (D : DataW H) (hm : a.eval m = .map (some b)) (hown : w.ownsMap Tryd.prog 178 rowElem b n D)
    (key : Value) (kl : Lit) (hx : a.eval x = key) (hkey : keyOf Tryd.prog 178 key = some kl)
    (hK : ∀ p s q c, D.atKey kl (rowData 0 [] 0 0) = rowData p s.data.toList q c → wpList Tryd.prog ops Q rest (a.put o.dst (.tuple #[.agg #[.int .i64 p, .string s, .int .i64 q, .int .i64 c], .bool (Maps.has D kl)])) w) :
    wpList Tryd.prog ops Q (o :: rest) a w :=
  wpList_lookup_own_ok w hg m x _ hop 178 175 rowKeyed Tryd.underlying117 rowElem (row_zero w) (rowData 0 [] 0 0) [] (rowElem_mk 0 ⟨#[]⟩ 0 0) b n D hm hown key kl hx hkey (fun v ps hv => by
    obtain ⟨p, s, q, c, rfl, hd⟩ := rowElem_inv hv
    exact hK p s q c hd)
end

set_option maxRecDepth 20000 in
set_option maxHeartbeats 2000000 in
theorem rput_calls {H : Type} (b m : Nat) (D : DataW H) (x : Int) (name : ByteArray) (y : Int) (w : World) (hx : -9223372036854775808 ≤ x ∧ x ≤ 9223372036854775807) (hs : name.size ≤ maxLen) (hown : w.ownsMap Tryd.prog 178 rowElem b m D) (hm : m < 1048576) :
    Calls Tryd.prog 96 #[.map (some b), .agg #[.int .i64 x, .string name, .int .i64 y]] w fun e w' => e = .returned (.tuple #[]) ∧ (∃ c, (Maps.has D (rk x name) = false → c = (Maps.size D : Int)) ∧ (Maps.has D (rk x name) = true → ∃ p s q, D.atKey (rk x name) (rowData 0 [] 0 0) = rowData p s q c) ∧
      w'.ownsMap Tryd.prog 178 rowElem b (m + 1) (D.put (rk x name) (rowData x name.data.toList y c))) ∧ w.grownBy w' (some b) := by
  have HK := hid (rk_key w hx hs)
  have HOWN := hid hown
  have HBLT := hid hown.lt
  have CK := hid (fun W => key_calls x name y W)
  generalize rk x name = kl at *
  clear hown hx hs
  obtain ⟨W0, hW0⟩ : ∃ W0, W0 = w.alloc (.cells #[.int .i64 x, .string name, .int .i64 y] 113) := ⟨_, rfl⟩
  have hb0 : Below w.heap.size w W0 := by rw [hW0]; exact (Below.refl _ _).alloc (Nat.le_refl _) _
  have HB0 := hid hb0
  have HV0 : Hid (W0.heap[w.heap.size]? = some (.cells #[.int .i64 x, .string name, .int .i64 y] 113)) := hid (by rw [hW0]; exact heap_alloc_new _ _)
  have hz0 : w.heap.size < W0.heap.size := by rw [hW0]; simp
  have HW0 := hid hW0
  clear hW0 hb0
  cases hh : Maps.has D kl with
  | true =>
    have HH := hid hh
    clear hh
    go_enter Tryd.func96, Tryd.ntmps96
    go_wp2_with (go_at_call 146; rw [← HW0.out]; refine (CK.out _).mono ?_; rintro e w1 ⟨rfl, hb1⟩; refine Hid.out ?_)
    refine hid ?_
    have HB1 := hid (HB0.out.trans (hb1.mono HB0.out.size))
    have HV1 := hid ((hb1.block w.heap.size hz0).trans HV0.out)
    have hz1 := hb1.size
    have HO1 := hid (HOWN.out.kept (grown_below (row := none) HB1.out) (by simp))
    have hlt : w.heap.size < w1.heap.size := Nat.lt_of_lt_of_le hz0 hz1
    clear hb1
    obtain ⟨k0, k1, k2⟩ := three_refs HV1.out
    go_wp2_with (first
      | (at_lookup; refine look_row _ rfl _ _ rfl b m D rfl HO1.out _ kl rfl HK.out ?_; intro p s q c hd; rw [HH.out]; refine Hid.out ?_)
      | (fail "no arm"))
    refine hid ?_
    have HD := hid hd
    clear hd
    obtain ⟨W2, hW2⟩ : ∃ W2, W2 = w1.alloc (.cells #[.int .i64 x, .string name, .int .i64 y, .int .i64 c] 175) := ⟨_, rfl⟩
    have hb2 : Below w1.heap.size w1 W2 := by rw [hW2]; exact (Below.refl _ _).alloc (Nat.le_refl _) _
    have HB2 := hid (HB1.out.trans (hb2.mono HB1.out.size))
    have HV2 : Hid (W2.heap[w1.heap.size]? = some (.cells #[.int .i64 x, .string name, .int .i64 y, .int .i64 c] 175)) := hid (by rw [hW2]; exact heap_alloc_new _ _)
    have hz2 : w1.heap.size < W2.heap.size := by rw [hW2]; simp
    have HR2 := hid ((hb2.block w.heap.size hlt).trans HV1.out)
    have HW2 := hid hW2
    clear hW2 hb2
    have hne1 : some w.heap.size ≠ some b := fun e => by have := Option.some.inj e; have := HBLT.out; omega
    have hne2 : some w1.heap.size ≠ some b := fun e => by have := Option.some.inj e; have := HBLT.out; omega
    have r0 : ∀ W : World, W2.grownBy W (some b) → W.cell? ⟨w.heap.size, 0, none⟩ = some (.int .i64 x) := fun W hW => (three_refs ((hW.block w.heap.size (by omega) hne1).trans HR2.out)).1
    have r1 : ∀ W : World, W2.grownBy W (some b) → W.cell? ⟨w.heap.size, 1, none⟩ = some (.string name) := fun W hW => (three_refs ((hW.block w.heap.size (by omega) hne1).trans HR2.out)).2.1
    have r2 : ∀ W : World, W2.grownBy W (some b) → W.cell? ⟨w.heap.size, 2, none⟩ = some (.int .i64 y) := fun W hW => (three_refs ((hW.block w.heap.size (by omega) hne1).trans HR2.out)).2.2
    have p0 : ∀ W : World, W2.grownBy W (some b) → W.cell? ⟨w1.heap.size, 0, none⟩ = some (.int .i64 x) := fun W hW => (row4_cells ((hW.block w1.heap.size (by omega) hne2).trans HV2.out)).1
    have p1 : ∀ W : World, W2.grownBy W (some b) → W.cell? ⟨w1.heap.size, 1, none⟩ = some (.string name) := fun W hW => (row4_cells ((hW.block w1.heap.size (by omega) hne2).trans HV2.out)).2.1
    have p2 : ∀ W : World, W2.grownBy W (some b) → W.cell? ⟨w1.heap.size, 2, none⟩ = some (.int .i64 y) := fun W hW => (row4_cells ((hW.block w1.heap.size (by omega) hne2).trans HV2.out)).2.2.1
    have p3 : ∀ W : World, W2.grownBy W (some b) → W.cell? ⟨w1.heap.size, 3, none⟩ = some (.int .i64 c) := fun W hW => (row4_cells ((hW.block w1.heap.size (by omega) hne2).trans HV2.out)).2.2.2
    go_wp2
    rw [← HW2.out]
    clear k0 k1 k2
    refine wp_region_held_drew (S := fun w' => W2.grownBy w' (some b)) (by kernel_rfl) (grown_below (row := some b) (Below.drew (Below.refl _ _))) (fun hHeld => ?_)
    refine take_dst (i := 0) 20 (v := ?_) rfl rfl (by kernel_rfl) (by kernel_rfl) (by kernel_rfl) (fun _ _ _ h => h) (Or.inl ⟨by rfl, ?_⟩) (by assumption) ?_
    case refine_2 => ((intro w hSw); (try dsimp only at hSw); go_simp; (try with_reducible rfl))
    try simp only [Act.put, List.setIfInBounds_toArray, List.set_cons_zero, List.set_cons_succ]
    refine take_dst (i := 1) 21 (v := ?_) rfl rfl (by kernel_rfl) (by kernel_rfl) (by kernel_rfl) (fun _ _ _ h => h) (Or.inl ⟨by rfl, ?_⟩) (by assumption) ?_
    case refine_2 => ((intro w hSw); (try dsimp only at hSw); go_simp; (try with_reducible rfl))
    try simp only [Act.put, List.setIfInBounds_toArray, List.set_cons_zero, List.set_cons_succ]
    refine take_dst (i := 3) 23 (v := ?_) rfl rfl (by kernel_rfl) (by kernel_rfl) (by kernel_rfl) (fun _ _ _ h => h) (Or.inl ⟨by rfl, ?_⟩) (by assumption) ?_
    case refine_2 => ((intro w hSw); (try dsimp only at hSw); go_simp; (try with_reducible rfl))
    try simp only [Act.put, List.setIfInBounds_toArray, List.set_cons_zero, List.set_cons_succ]
    refine wpAnyH_ready (rs := [2]) (by kernel_rfl) (by simp) ?_
    refine AllReadyH.cons rfl (fun K hK => ?_) AllReadyH.nil
    go_simp
    go_at_call 146
    refine (CK.out _).mono ?_
    rintro e w3 ⟨rfl, hb3⟩
    go_wp2_with fail
    have hb3' := pol_step (Below.refl W2.heap.size W2) (Nat.le_refl _) hb3
    refine hK.out _ _ (grown_below (row := some b) hb3') (fun hHeld => ?_)
    clear hK K
    try simp only [Act.put, List.setIfInBounds_toArray, List.set_cons_zero, List.set_cons_succ]
    have HB3 := hid (HB2.out.trans (hb3'.mono HB2.out.size))
    have HO3 := hid (HOWN.out.kept (grown_below (row := none) HB3.out) (by simp))
    have HQ3 := hid hb3'
    clear hb3 hb3' hHeld
    refine wpAnyH_ready (rs := [4]) (by kernel_rfl) (by simp) ?_
    refine AllReadyH.cons rfl (fun K hK => ?_) AllReadyH.nil
    obtain ⟨w4, hrun4, hown4, hgrow4⟩ := HO3.out.update rowKeyed Tryd.underlying117 (show m < maxLen by unfold maxLen; omega) HK.out (rowElem_mk x name y c)
    go_simp
    have HG4 := hid ((grown_below (row := some b) HQ3.out).trans hgrow4)
    refine hK.out _ _ HG4.out (fun hHeld => ?_)
    have HO4 := hid hown4
    have HG5 := hid ((grown_below (row := some b) HB2.out).trans HG4.out)
    clear hK K hHeld hrun4 hown4 hgrow4
    refine wpAnyH_done (by kernel_rfl) ?_ _
    go_end0
    exact ⟨rfl, ⟨c, fun h => (by cases h), fun _ => ⟨p, _, q, HD.out⟩, HO4.out⟩, HG5.out⟩
  | false =>
    have HH := hid hh
    clear hh
    go_enter Tryd.func96, Tryd.ntmps96
    go_wp2_with (go_at_call 146; rw [← HW0.out]; refine (CK.out _).mono ?_; rintro e w1 ⟨rfl, hb1⟩; refine Hid.out ?_)
    refine hid ?_
    have HB1 := hid (HB0.out.trans (hb1.mono HB0.out.size))
    have HV1 := hid ((hb1.block w.heap.size hz0).trans HV0.out)
    have hz1 := hb1.size
    have HO1 := hid (HOWN.out.kept (grown_below (row := none) HB1.out) (by simp))
    have hlt : w.heap.size < w1.heap.size := Nat.lt_of_lt_of_le hz0 hz1
    clear hb1
    obtain ⟨k0, k1, k2⟩ := three_refs HV1.out
    go_wp2_with (first
      | (at_lookup; refine look_row _ rfl _ _ rfl b m D rfl HO1.out _ kl rfl HK.out ?_; intro p s q c hd; rw [HH.out]; refine Hid.out ?_)
      | (fail "no arm"))
    refine hid ?_
    have HD := hid hd
    clear hd
    obtain ⟨W2, hW2⟩ : ∃ W2, W2 = w1.alloc (.cells #[.int .i64 x, .string name, .int .i64 y, .int .i64 (Maps.size D : Int)] 175) := ⟨_, rfl⟩
    have hb2 : Below w1.heap.size w1 W2 := by rw [hW2]; exact (Below.refl _ _).alloc (Nat.le_refl _) _
    have HB2 := hid (HB1.out.trans (hb2.mono HB1.out.size))
    have HV2 : Hid (W2.heap[w1.heap.size]? = some (.cells #[.int .i64 x, .string name, .int .i64 y, .int .i64 (Maps.size D : Int)] 175)) := hid (by rw [hW2]; exact heap_alloc_new _ _)
    have hz2 : w1.heap.size < W2.heap.size := by rw [hW2]; simp
    have HR2 := hid ((hb2.block w.heap.size hlt).trans HV1.out)
    have HW2 := hid hW2
    clear hW2 hb2
    have hne1 : some w.heap.size ≠ some b := fun e => by have := Option.some.inj e; have := HBLT.out; omega
    have hne2 : some w1.heap.size ≠ some b := fun e => by have := Option.some.inj e; have := HBLT.out; omega
    have r0 : ∀ W : World, W2.grownBy W (some b) → W.cell? ⟨w.heap.size, 0, none⟩ = some (.int .i64 x) := fun W hW => (three_refs ((hW.block w.heap.size (by omega) hne1).trans HR2.out)).1
    have r1 : ∀ W : World, W2.grownBy W (some b) → W.cell? ⟨w.heap.size, 1, none⟩ = some (.string name) := fun W hW => (three_refs ((hW.block w.heap.size (by omega) hne1).trans HR2.out)).2.1
    have r2 : ∀ W : World, W2.grownBy W (some b) → W.cell? ⟨w.heap.size, 2, none⟩ = some (.int .i64 y) := fun W hW => (three_refs ((hW.block w.heap.size (by omega) hne1).trans HR2.out)).2.2
    have p0 : ∀ W : World, W2.grownBy W (some b) → W.cell? ⟨w1.heap.size, 0, none⟩ = some (.int .i64 x) := fun W hW => (row4_cells ((hW.block w1.heap.size (by omega) hne2).trans HV2.out)).1
    have p1 : ∀ W : World, W2.grownBy W (some b) → W.cell? ⟨w1.heap.size, 1, none⟩ = some (.string name) := fun W hW => (row4_cells ((hW.block w1.heap.size (by omega) hne2).trans HV2.out)).2.1
    have p2 : ∀ W : World, W2.grownBy W (some b) → W.cell? ⟨w1.heap.size, 2, none⟩ = some (.int .i64 y) := fun W hW => (row4_cells ((hW.block w1.heap.size (by omega) hne2).trans HV2.out)).2.2.1
    have p3 : ∀ W : World, W2.grownBy W (some b) → W.cell? ⟨w1.heap.size, 3, none⟩ = some (.int .i64 (Maps.size D : Int)) := fun W hW => (row4_cells ((hW.block w1.heap.size (by omega) hne2).trans HV2.out)).2.2.2
    go_wp2_with (first
      | (refine wpList_len_own _ rfl _ 117 rfl 178 175 Tryd.underlying117 rowElem b m D rfl (HO1.out.alloc _) ?_)
      | (fail "no arm"))
    rw [← HW2.out]
    clear k0 k1 k2
    refine wp_region_held_drew (S := fun w' => W2.grownBy w' (some b)) (by kernel_rfl) (grown_below (row := some b) (Below.drew (Below.refl _ _))) (fun hHeld => ?_)
    refine take_dst (i := 0) 20 (v := ?_) rfl rfl (by kernel_rfl) (by kernel_rfl) (by kernel_rfl) (fun _ _ _ h => h) (Or.inl ⟨by rfl, ?_⟩) (by assumption) ?_
    case refine_2 => ((intro w hSw); (try dsimp only at hSw); go_simp; (try with_reducible rfl))
    try simp only [Act.put, List.setIfInBounds_toArray, List.set_cons_zero, List.set_cons_succ]
    refine take_dst (i := 1) 21 (v := ?_) rfl rfl (by kernel_rfl) (by kernel_rfl) (by kernel_rfl) (fun _ _ _ h => h) (Or.inl ⟨by rfl, ?_⟩) (by assumption) ?_
    case refine_2 => ((intro w hSw); (try dsimp only at hSw); go_simp; (try with_reducible rfl))
    try simp only [Act.put, List.setIfInBounds_toArray, List.set_cons_zero, List.set_cons_succ]
    refine take_dst (i := 3) 23 (v := ?_) rfl rfl (by kernel_rfl) (by kernel_rfl) (by kernel_rfl) (fun _ _ _ h => h) (Or.inl ⟨by rfl, ?_⟩) (by assumption) ?_
    case refine_2 => ((intro w hSw); (try dsimp only at hSw); go_simp; (try with_reducible rfl))
    try simp only [Act.put, List.setIfInBounds_toArray, List.set_cons_zero, List.set_cons_succ]
    refine wpAnyH_ready (rs := [2]) (by kernel_rfl) (by simp) ?_
    refine AllReadyH.cons rfl (fun K hK => ?_) AllReadyH.nil
    go_simp
    go_at_call 146
    refine (CK.out _).mono ?_
    rintro e w3 ⟨rfl, hb3⟩
    go_wp2_with fail
    have hb3' := pol_step (Below.refl W2.heap.size W2) (Nat.le_refl _) hb3
    refine hK.out _ _ (grown_below (row := some b) hb3') (fun hHeld => ?_)
    clear hK K
    try simp only [Act.put, List.setIfInBounds_toArray, List.set_cons_zero, List.set_cons_succ]
    have HB3 := hid (HB2.out.trans (hb3'.mono HB2.out.size))
    have HO3 := hid (HOWN.out.kept (grown_below (row := none) HB3.out) (by simp))
    have HQ3 := hid hb3'
    clear hb3 hb3' hHeld
    refine wpAnyH_ready (rs := [4]) (by kernel_rfl) (by simp) ?_
    refine AllReadyH.cons rfl (fun K hK => ?_) AllReadyH.nil
    obtain ⟨w4, hrun4, hown4, hgrow4⟩ := HO3.out.update rowKeyed Tryd.underlying117 (show m < maxLen by unfold maxLen; omega) HK.out (rowElem_mk x name y (Maps.size D : Int))
    go_simp
    have HG4 := hid ((grown_below (row := some b) HQ3.out).trans hgrow4)
    refine hK.out _ _ HG4.out (fun hHeld => ?_)
    have HO4 := hid hown4
    have HG5 := hid ((grown_below (row := some b) HB2.out).trans HG4.out)
    clear hK K hHeld hrun4 hown4 hgrow4
    refine wpAnyH_done (by kernel_rfl) ?_ _
    go_end0
    exact ⟨rfl, ⟨(Maps.size D : Int), fun _ => rfl, fun h => (by cases h), HO4.out⟩, HG5.out⟩
end Go.Proofs.YtponjghppnpnhaaDoor

namespace Go.Proofs.YtponjghppnpnhaaDoor
open Go.RowKit Go.WideMaps Go.Maps
open Go.Lib (hid)

section
variable {H : Type}

/-- The key of the row at a place. -/
def rkAt (es : List RefD) (i : Nat) : Lit := rk (es.getD i zRef).x0 (es.getD i zRef).x1

/-- The book's rows after the first n. -/
def rowsD (es : List RefD) : Nat → DataW H
  | 0 => .map []
  | n + 1 => (rowsD es n).put (rkAt es n) (rowData (es.getD n zRef).x0 (es.getD n zRef).x1.data.toList (es.getD n zRef).x2 n)

/-- Rows that memory can hold. -/
def RowsFit (es : List RefD) : Prop := ∀ i, i < es.length → (-9223372036854775808 ≤ (es.getD i zRef).x0 ∧ (es.getD i zRef).x0 ≤ 9223372036854775807) ∧ (es.getD i zRef).x1.size ≤ maxLen

theorem key_at (w : World) {es : List RefD} (hf : RowsFit es) {i : Nat} (hi : i < es.length) : keyOf Tryd.prog 178 (.agg #[.int .i64 (es.getD i zRef).x0, .string (es.getD i zRef).x1]) = some (rkAt es i) :=
  rk_key w (hf i hi).1 (hf i hi).2

theorem lit_at (w : World) {es : List RefD} (hf : RowsFit es) {i : Nat} (hi : i < es.length) : WideAt.IsKeyLit (rkAt es i) := rowKeyed.key (key_at w hf hi)

theorem tidy_rows (w : World) {es : List RefD} (hf : RowsFit es) : ∀ n, n ≤ es.length → Tidy (rowsD (H := H) es n)
  | 0, _ => tidy_empty
  | n + 1, h => (tidy_rows w hf n (Nat.le_of_succ_le h)).put (lit_at w hf h) _

theorem same_rk (w : World) {es : List RefD} (hf : RowsFit es) {i k : Nat} (hi : i < es.length) (hk : k < es.length) : rkAt es k = rkAt es i ↔ sameK (es.getD k zRef) (es.getD i zRef) := by
  constructor
  · intro h
    obtain ⟨h1, h2⟩ := rk_inj w (hf k hk).1 (hf i hi).1 (hf k hk).2 (hf i hi).2 h
    exact ⟨h1, by rw [h2]⟩
  · rintro ⟨h1, h2⟩
    have h3 : (es.getD k zRef).x1 = (es.getD i zRef).x1 := ByteArray.ext (Array.toList_inj.1 h2)
    unfold rkAt
    rw [h1, h3]

theorem has_rows (w : World) {es : List RefD} (hf : RowsFit es) {i : Nat} (hi : i < es.length) : ∀ n, n ≤ es.length → Maps.has (rowsD (H := H) es n) (rkAt es i) = !apartB es i n
  | 0, _ => rfl
  | n + 1, h => by
    have ih := has_rows w hf hi n (Nat.le_of_succ_le h)
    have ha : apartB es i (n + 1) = (apartB es i n && decide (¬ sameK (es.getD n zRef) (es.getD i zRef))) := allr_succ _ n
    by_cases hs : sameK (es.getD n zRef) (es.getD i zRef)
    · rw [ha, decide_eq_false (fun h2 => h2 hs), Bool.and_false, ← (same_rk w hf hi h).2 hs]
      exact has_put_same (tidy_rows w hf n (Nat.le_of_succ_le h)).isMap (lit_at w hf h) _
    · rw [ha, decide_eq_true hs, Bool.and_true, ← ih]
      exact has_put_other (fun e => hs ((same_rk w hf hi h).1 e.symm)) _

theorem size_rows (w : World) {es : List RefD} (hf : RowsFit es) : ∀ n, n ≤ es.length → rowsB es n = true → Maps.size (rowsD (H := H) es n) = n
  | 0, _, _ => rfl
  | n + 1, h, hr => by
    have hr2 : (rowsB es n && rowGood es n) = true := (allr_succ _ n).symm.trans hr
    rw [Bool.and_eq_true] at hr2
    have hg := hr2.2
    unfold rowGood at hg
    rw [Bool.and_eq_true] at hg
    show Maps.size ((rowsD es n).put (rkAt es n) _) = n + 1
    rw [size_put (tidy_rows w hf n (Nat.le_of_succ_le h)), has_rows w hf h n (Nat.le_of_succ_le h), hg.2, size_rows w hf n (Nat.le_of_succ_le h) hr2.1]
    rfl
end
end Go.Proofs.YtponjghppnpnhaaDoor

namespace Go.Proofs.YtponjghppnpnhaaDoor
open Go.RowKit Go.WideMaps Go.Maps
open Go.Lib (hid)

/-- What reading the rows answers. -/
def RowsPost (H : Type) (es : List RefD) (w : World) (e : Ending) (w' : World) : Prop :=
  Below w.heap.size w w' ∧ (((decide (es.length ≤ 60) && rowsB es es.length) = false ∧ e = .returned (.tuple #[.map none, .bool false])) ∨
    ((decide (es.length ≤ 60) && rowsB es es.length) = true ∧ ∃ s, e = .returned (.tuple #[.map (some s), .bool true]) ∧ w.heap.size ≤ s ∧ w'.ownsMap Tryd.prog 178 (rowElem (H := H)) s es.length (rowsD es es.length)))

set_option maxRecDepth 20000 in
set_option maxHeartbeats 4000000 in
theorem readRows_calls {H : Type} (es : List RefD) (hn : es.length ≤ 1048576) (hf : RowsFit es) (a : Value) (w : World) (ha : FRow encRef 3 w a es) (hT : Tab w) (hG : 0 < w.heap.size) (hP : Lib.TabIs Tryd.prog w "internal/strconv.uint64pow10" .u64 Lib.pow10Tab) :
    Calls Tryd.prog 130 #[a] w (RowsPost H es w) := by
  unfold RowsPost
  have hmm := @run_makeMap Tryd.prog
  have HA := hid ha
  have HF := hid hf
  have HT := hid (fun W (hb : Below w.heap.size w W) => tab_on hT hG hb)
  have HP := hid (fun W (hb : Below w.heap.size w W) => Num.tab_stays hb hP)
  have HGG := hid (fun W (hb : Below w.heap.size w W) => Nat.lt_of_lt_of_le hG hb.size)
  obtain ⟨p, c, rfl, _, _⟩ := ha
  clear hT hP hG hf
  by_cases h60 : es.length ≤ 60
  · have d60 : ¬ (es.length : Int) > 60 := by omega
    rw [decide_eq_true h60, Bool.true_and]
    generalize hrr : rowsB es es.length = r
    have HRR := hid hrr
    have HB5 : Hid (Below w.heap.size w (w.alloc (.map #[] 0))) := hid ((Below.refl _ _).alloc (Nat.le_refl _) _)
    have HO5 : Hid ((w.alloc (.map #[] 0)).ownsMap Tryd.prog 178 (rowElem (H := H)) w.heap.size 0 (rowsD es 0)) := hid (World.ownsMap_made w _ _ _)
    clear h60 hrr
    go_enter Tryd.func130, Tryd.ntmps130
    go_wp2
    go_loopw [15] (fun iv wr => ∃ i : Nat, i ≤ es.length ∧ iv = .int .i64 i ∧ Below w.heap.size w wr ∧ wr.ownsMap Tryd.prog 178 (rowElem (H := H)) w.heap.size i (rowsD es i) ∧ rowsB es i = true) (fun iv _ => es.length - (RowKit.intOf iv).toNat)
    case atStart => exact ⟨0, Nat.zero_le _, rfl, HB5.out, HO5.out, rfl⟩
    case round =>
      clear HB5 HO5
      obtain ⟨i, hi, rfl, hbel, hown, hall⟩ := hrel
      have HB := hid hbel
      have HO := hid hown
      have HALL := hid hall
      by_cases hlt : i < es.length
      · have hne : es ≠ [] := fun h => by rw [h] at hlt; cases hlt
        obtain ⟨p', c', hv, _, hp⟩ := HA.out
        obtain ⟨rfl, rfl⟩ : p = p' ∧ c = c' := by injection hv with h1 h2 h3; exact ⟨h1, by omega⟩
        obtain ⟨g, o, rfl, hg, hc⟩ := hp hne
        clear hv hp
        have b1 : (0 : Int) ≤ (i : Int) := by omega
        have b2 : (i : Int) < (es.length : Int) := by omega
        have l0 : wr.cell? ⟨g, o + i * 3, none⟩ = some (.int .i64 (es.getD i zRef).x0) := by rw [ref_at hlt]; exact (hbel.cell (p := ⟨g, o + i * 3, none⟩) hg).trans (hc i hlt 0 (by decide))
        have l1 : wr.cell? ⟨g, o + i * 3 + 1, none⟩ = some (.string (es.getD i zRef).x1) := by rw [ref_at hlt]; exact (hbel.cell (p := ⟨g, o + i * 3 + 1, none⟩) hg).trans (hc i hlt 1 (by decide))
        have l2 : wr.cell? ⟨g, o + i * 3 + 2, none⟩ = some (.int .i64 (es.getD i zRef).x2) := by rw [ref_at hlt]; exact (hbel.cell (p := ⟨g, o + i * 3 + 2, none⟩) hg).trans (hc i hlt 2 (by decide))
        have HK := hid (key_at wr HF.out hlt)
        have HHS := hid (has_rows (H := H) wr HF.out hlt i hi)
        have HSZ := hid (size_rows (H := H) wr HF.out i hi hall)
        have HGD : Hid (rowGood es i = (refB (es.getD i zRef) && apartB es i i)) := hid rfl
        have HTK : Hid (rowsD (H := H) es (i + 1) = (rowsD es i).put (rkAt es i) (rowData (es.getD i zRef).x0 (es.getD i zRef).x1.data.toList (es.getD i zRef).x2 i)) := hid rfl
        have HRK : Hid (rk (es.getD i zRef).x0 (es.getD i zRef).x1 = rkAt es i) := hid rfl
        have HF1 := hid (HF.out i hlt)
        clear hc hbel hown hall
        generalize rkAt es i = kl at *
        generalize hei : es.getD i zRef = ei at *
        obtain ⟨x, name, y⟩ := ei
        clear hei
        dsimp only at *
        have CK := hid (fun W => key_calls x name y W)
        have CR := hid (fun W hT hG hP => right_calls x name y W hT hG hP)
        obtain ⟨W6, hW6⟩ : ∃ W6, W6 = wr.alloc (.cells #[.int .i64 x, .string name, .int .i64 y] 113) := ⟨_, rfl⟩
        have hb6 : Below wr.heap.size wr W6 := by rw [hW6]; exact (Below.refl _ _).alloc (Nat.le_refl _) _
        have HN6 : Hid (W6.heap[wr.heap.size]? = some (.cells #[.int .i64 x, .string name, .int .i64 y] 113)) := hid (by rw [hW6]; exact heap_alloc_new _ _)
        have hz6 : wr.heap.size < W6.heap.size := by rw [hW6]; simp
        have HB6 := hid (HB.out.trans (hb6.mono HB.out.size))
        have HO6 := hid (HO.out.kept (grown_below (row := none) hb6) (by simp))
        have HW6 := hid hW6
        obtain ⟨j0, j1, j2⟩ := three_refs HN6.out
        rw [hW6] at j0 j1 j2
        clear hb6 hW6 HB HO
        cases hab : apartB es i i with
        | false =>
          rw [hab, Bool.and_false] at HGD
          have HGB : Hid (rowGood es i = false) := HGD
          have HH : Hid (Maps.has (rowsD (H := H) es i) kl = true) := hid (by rw [HHS.out, hab]; rfl)
          clear hab HHS HGD
          go_wp2_with (first
            | (go_at_call 146; rw [← HW6.out]; refine (CK.out _).mono ?_; rintro e w7 ⟨rfl, hb7⟩; refine Hid.out ?_)
            | (fail "no arm"))
          refine hid ?_
          have HB7 := hid (HB6.out.trans (hb7.mono HB6.out.size))
          have HN7 := hid ((hb7.block _ hz6).trans HN6.out)
          have hz7 := hb7.size
          have HO7 := hid (HO6.out.kept (grown_below (row := none) hb7) (by simp))
          have hlt7 : wr.heap.size < w7.heap.size := by omega
          clear hb7 j0 j1 j2
          obtain ⟨n0, n1, n2⟩ := three_refs HN7.out
          go_wp2_with (first
            | (at_lookup; refine look_row _ rfl _ _ rfl w.heap.size i _ rfl HO7.out _ kl rfl HK.out ?_; intro p' s q c' hd; rw [HH.out]; clear hd; refine Hid.out ?_)
            | (fail "no arm"))
          refine hid ?_
          go_wp2
          exact bodyPost_ret (v := .tuple #[.map none, .bool false]) (by simp [results, Tryd.results130, go_sem]) rfl ⟨(HB7.out.alloc HB7.out.size _), Or.inl ⟨by rw [← HRR.out]; exact allr_no HGB.out hlt, rfl⟩⟩
        | true =>
          rw [hab, Bool.and_true] at HGD
          have HH : Hid (Maps.has (rowsD (H := H) es i) kl = false) := hid (by rw [HHS.out, hab]; rfl)
          clear hab HHS
          cases hrb : refB ⟨x, name, y⟩ with
          | false =>
            have HRB := hid hrb
            have HGB : Hid (rowGood es i = false) := hid (HGD.out.trans hrb)
            clear hrb HGD
            go_wp2_with (first
              | (go_at_call 146; rw [← HW6.out]; refine (CK.out _).mono ?_; rintro e w7 ⟨rfl, hb7⟩; refine Hid.out ?_)
              | (fail "no arm"))
            refine hid ?_
            have HB7 := hid (HB6.out.trans (hb7.mono HB6.out.size))
            have HN7 := hid ((hb7.block _ hz6).trans HN6.out)
            have hz7 := hb7.size
            have HO7 := hid (HO6.out.kept (grown_below (row := none) hb7) (by simp))
            have hlt7 : wr.heap.size < w7.heap.size := by omega
            clear hb7 j0 j1 j2
            obtain ⟨n0, n1, n2⟩ := three_refs HN7.out
            go_wp2_with (first
              | (at_lookup; refine look_row _ rfl _ _ rfl w.heap.size i _ rfl HO7.out _ kl rfl HK.out ?_; intro p' s q c' hd; rw [HH.out]; clear hd; refine Hid.out ?_)
              | (fail "no arm"))
            refine hid ?_
            have hb8 : Below w7.heap.size w7 (w7.alloc (.cells #[.int .i64 p', .string s, .int .i64 q, .int .i64 c'] 175)) := (Below.refl _ _).alloc (Nat.le_refl _) _
            have HB8 := hid (HB7.out.trans (hb8.mono HB7.out.size))
            have HN8 := hid ((hb8.block _ hlt7).trans HN7.out)
            have HO8 := hid (HO7.out.kept (grown_below (row := none) hb8) (by simp))
            have hz8 := hb8.size
            have CR8 := hid (CR.out _ (HT.out _ HB8.out) (HGG.out _ HB8.out) (HP.out _ HB8.out))
            clear hb8
            go_wp2_with (first
              | (go_at_call 164; refine CR8.out.mono ?_; rintro e w9 ⟨rfl, hb9⟩; rw [HRB.out]; refine Hid.out ?_)
              | (fail "no arm"))
            refine hid ?_
            have HB9 := hid (HB8.out.trans (hb9.mono HB8.out.size))
            have hlt8 := Nat.lt_of_lt_of_le hlt7 hz8
            have HN9 := hid ((hb9.block _ hlt8).trans HN8.out)
            have HO9 := hid (HO8.out.kept (grown_below (row := none) hb9) (by simp))
            clear hb9 n0 n1 n2
            obtain ⟨n0, n1, n2⟩ := three_refs HN9.out
            go_wp2
            exact bodyPost_ret (v := .tuple #[.map none, .bool false]) (by simp [results, Tryd.results130, go_sem]) rfl ⟨HB9.out, Or.inl ⟨by rw [← HRR.out]; exact allr_no HGB.out hlt, rfl⟩⟩
          | true =>
            have HRB := hid hrb
            have HGB : Hid (rowGood es i = true) := hid (HGD.out.trans hrb)
            clear hrb HGD
            go_wp2_with (first
              | (go_at_call 146; rw [← HW6.out]; refine (CK.out _).mono ?_; rintro e w7 ⟨rfl, hb7⟩; refine Hid.out ?_)
              | (fail "no arm"))
            refine hid ?_
            have HB7 := hid (HB6.out.trans (hb7.mono HB6.out.size))
            have HN7 := hid ((hb7.block _ hz6).trans HN6.out)
            have hz7 := hb7.size
            have HO7 := hid (HO6.out.kept (grown_below (row := none) hb7) (by simp))
            have hlt7 : wr.heap.size < w7.heap.size := by omega
            clear hb7 j0 j1 j2
            obtain ⟨n0, n1, n2⟩ := three_refs HN7.out
            go_wp2_with (first
              | (at_lookup; refine look_row _ rfl _ _ rfl w.heap.size i _ rfl HO7.out _ kl rfl HK.out ?_; intro p' s q c' hd; rw [HH.out]; clear hd; refine Hid.out ?_)
              | (fail "no arm"))
            refine hid ?_
            have hb8 : Below w7.heap.size w7 (w7.alloc (.cells #[.int .i64 p', .string s, .int .i64 q, .int .i64 c'] 175)) := (Below.refl _ _).alloc (Nat.le_refl _) _
            have HB8 := hid (HB7.out.trans (hb8.mono HB7.out.size))
            have HN8 := hid ((hb8.block _ hlt7).trans HN7.out)
            have HO8 := hid (HO7.out.kept (grown_below (row := none) hb8) (by simp))
            have hz8 := hb8.size
            have CR8 := hid (CR.out _ (HT.out _ HB8.out) (HGG.out _ HB8.out) (HP.out _ HB8.out))
            clear hb8
            go_wp2_with (first
              | (go_at_call 164; refine CR8.out.mono ?_; rintro e w9 ⟨rfl, hb9⟩; rw [HRB.out]; refine Hid.out ?_)
              | (fail "no arm"))
            refine hid ?_
            have HB9 := hid (HB8.out.trans (hb9.mono HB8.out.size))
            have hlt8 := Nat.lt_of_lt_of_le hlt7 hz8
            have HN9 := hid ((hb9.block _ hlt8).trans HN8.out)
            have HO9 := hid (HO8.out.kept (grown_below (row := none) hb9) (by simp))
            clear hb9 n0 n1 n2
            obtain ⟨n0, n1, n2⟩ := three_refs HN9.out
            have CP := hid (rput_calls w.heap.size i _ x name y w9 HF1.out.1 HF1.out.2 HO9.out (by omega))
            rw [HRK.out, HH.out, HSZ.out] at CP
            go_wp2_with (first
              | (go_at_call 96; refine CP.out.mono ?_; rintro e w10 ⟨rfl, hc10, hg10⟩; refine Hid.out ?_)
              | (fail "no arm"))
            refine hid ?_
            obtain ⟨c10, hcc, _, ho10⟩ := hc10
            have hcc2 := hcc (by first | trivial | rfl)
            subst hcc2
            have HO10 := hid ho10
            have HB10 := hid (HB9.out.grown hg10 HB9.out.size (fun k hk => by cases hk; exact Nat.le_refl _))
            clear ho10 hg10 hcc n0 n1 n2
            go_wp2
            go_roundw
            case rel => exact ⟨i + 1, by omega, by go_num, HB10.out, by rw [HTK.out]; exact HO10.out, (allr_succ _ i).trans (by rw [show (List.range i).all (rowGood es) = true from HALL.out, HGB.out]; rfl)⟩
            case measure => simp [RowKit.intOf]; omega
      · have hie : i = es.length := by omega
        subst hie
        clear hbel hown hall
        go_wp2
        exact bodyPost_ret (v := .tuple #[.map (some w.heap.size), .bool true]) (by simp [results, Tryd.results130, go_sem]) rfl ⟨HB.out, Or.inr ⟨by rw [← HRR.out]; exact HALL.out, w.heap.size, rfl, Nat.le_refl _, HO.out⟩⟩
  · have d60 : (es.length : Int) > 60 := by omega
    rw [decide_eq_false h60, Bool.false_and]
    clear h60
    go_enter Tryd.func130, Tryd.ntmps130
    go_wp2
    exact bodyPost_ret (v := .tuple #[.map none, .bool false]) (by simp [results, Tryd.results130, go_sem]) rfl ⟨Below.refl _ _, Or.inl ⟨by first | trivial | rfl, rfl⟩⟩
end Go.Proofs.YtponjghppnpnhaaDoor
