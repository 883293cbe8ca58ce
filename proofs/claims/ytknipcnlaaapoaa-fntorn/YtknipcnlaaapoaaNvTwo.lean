/- Both copies: read out of the words, and which of them stands. -/
import Derived.Test.YtknipcnlaaapoaaNvEq
namespace Go.Proofs.Ytknipcnlaaapoaa
open Go.RowKit
open Go.Lib (hid)

def buildD (parts : Array (Nat × Value)) : Sem Value := Instr.build 47 parts
def storeD (p v : Value) : Sem Unit := Instr.storeAt 47 p v
def loadD (p : Value) : Sem Value := Instr.loadAt 47 p
theorem buildD_eq : Instr.build 47 = buildD := rfl
theorem storeD_eq : Instr.storeAt 47 = storeD := rfl
theorem loadD_eq : Instr.loadAt 47 = loadD := rfl

theorem fill_list (off : Nat) : ∀ (L : List Value) (k : Nat) (cs : Array Value), off + k + L.length ≤ cs.size → (L.zipIdx k).foldl (fun cs x => cs.setIfInBounds (off + x.2) x.1) cs = (cs.toList.take (off + k) ++ (L ++ cs.toList.drop (off + k + L.length))).toArray := by
  intro L
  induction L with
  | nil => intro k cs _; simp
  | cons v L ih =>
    intro k cs h
    simp only [List.length_cons] at h
    rw [List.zipIdx_cons, List.foldl_cons, ih (k + 1) _ (by rw [Array.size_setIfInBounds]; omega)]
    congr 1
    rw [Array.toList_setIfInBounds, show off + (k + 1) = off + k + 1 by omega, List.drop_set_of_lt (by omega), List.take_succ_eq_append_getElem (by simp; omega), List.take_set_of_le (by omega), List.getElem_set_self]
    simp only [List.length_cons, List.append_assoc, List.cons_append, List.nil_append]
    rw [show off + k + (L.length + 1) = off + k + 1 + L.length by omega]

theorem fill_array (off : Nat) (A cs : Array Value) (h : off + A.size ≤ cs.size) : A.zipIdx.foldl (fun cs x => cs.setIfInBounds (off + x.2) x.1) cs = (cs.toList.take off ++ (A.toList ++ cs.toList.drop (off + A.size))).toArray := by
  rw [← Array.foldl_toList, Array.toList_zipIdx]
  have := fill_list off A.toList 0 cs (by simpa using h)
  simpa using this

set_option maxRecDepth 20000 in
theorem built_two (A B : Array Value) (hA : A.size = 22) (hB : B.size = 22) : Try.prog.built 47 #[(0, Value.agg A), (1, Value.agg B)].toList = some (A ++ B) := by
  unfold Program.built
  have h1 : (Try.prog.info? 47).map (fun i => i.zero) = some (some (.agg (Array.replicate 44 (.int .i64 0)))) := by kernel_rfl
  have h2 : (Try.prog.info? 46).map (fun i => i.size) = some 22 := by kernel_rfl
  obtain ⟨i1, hi1, hz1⟩ := Option.map_eq_some_iff.1 h1
  obtain ⟨i2, hi2, hz2⟩ := Option.map_eq_some_iff.1 h2
  have f1 := fill_array 0 A (Array.replicate 44 (.int .i64 0)) (by simp; omega)
  have f2 := fill_array 22 B ((Array.replicate 44 (Value.int .i64 0)).toList.take 0 ++ (A.toList ++ (Array.replicate 44 (Value.int .i64 0)).toList.drop (0 + A.size))).toArray (by simp; omega)
  rw [← f1] at f2
  simp only [hi1, hz1, hi2, hz2, Try.underlying47]
  have z1 : ((Value.agg A).cells.size ≠ 22 || decide (0 * 22 + (Value.agg A).cells.size > (Array.replicate 44 (Value.int .i64 0)).size)) = false := by simp [Value.cells, hA]
  show Instr.fill _ (Array.replicate 44 (Value.int .i64 0)) _ = _
  simp only [Instr.fill, z1, Bool.false_eq_true, if_false]
  simp only [Nat.zero_mul, Nat.one_mul, Value.cells]
  rw [if_neg (by rw [f1]; simp [hA, hB]), f2]
  congr 1
  rw [f1]
  apply Array.ext'
  simp [hA, hB]

attribute [local go_sem ↓] buildD_eq storeD_eq loadD_eq loadC_eq

theorem buildD_run (A B : Array Value) (hA : A.size = 22) (hB : B.size = 22) (W : World) : (buildD #[(0, .agg A), (1, .agg B)]).run Try.prog W = .ok (.agg (A ++ B)) W := run_build W _ _ _ (built_two A B hA hB)

/-- The row of both copies, whatever it holds. -/
def Row2 (W : World) (b : Nat) : Prop := ∃ Z : Array Value, W.heap[b]? = some (.cells Z 47 (0, 0)) ∧ Z.size = 44

theorem storeD_run (V : Array Value) (hV : V.size = 44) (h1 : V.all (·.oneCell') = true) (b : Nat) (W : World) (h : Row2 W b) : (storeD (.pointer (some ⟨b, 0, none⟩)) (.agg V)).run Try.prog W = .ok () (W.setRow b V) := by
  obtain ⟨Z, hZ, hz⟩ := h
  unfold storeD
  simp only [Instr.storeAt, Instr.sureAddr, Sem.run_bind, Sem.run_pure, Result.andThen_ok]
  exact run_storeVar_row W b _ _ Z V hZ (by rw [hV]; kernel_rfl) (by rw [hV, hz]) h1

theorem row2_set {W : World} {b : Nat} (h : Row2 W b) (V : Array Value) : (W.setRow b V).heap[b]? = some (.cells V 47 (0, 0)) := by
  obtain ⟨Z, hZ, hz⟩ := h
  exact setRow_heap _ _ _ _ _ _ hZ

theorem row2_had {W : World} {b : Nat} {V : Array Value} (h : Row2 (W.setRow b V) b) : (W.setRow b V).heap[b]? = some (.cells V 47 (0, 0)) := by
  obtain ⟨Z, hZ, hz⟩ := h
  rw [hZ]
  unfold World.setRow at hZ
  simp only [Array.getElem?_modify] at hZ
  cases hg : W.heap[b]? with
  | none => rw [hg] at hZ; simp at hZ
  | some o =>
    rw [hg] at hZ
    simp at hZ
    cases o with
    | cells cs t fr => simp at hZ; obtain ⟨h1, h2, h3⟩ := hZ; rw [h1]
    | _ => simp at hZ

theorem copyV_size (l : List Int) (h2 : 2 ≤ l.length) (h22 : l.length ≤ 22) : (copyV l).size = 22 := nvc_size _ _ _ (by unfold padN; simp [noughts_len]; omega)

theorem row_take {w : World} {g o c : Nat} {ws : List Int} (h : RowIn w (.slice (some ⟨g, o, none⟩) ws.length c) ws) (n : Nat) (hn : n ≤ ws.length) : RowIn w (.slice (some ⟨g, o, none⟩) n c) (ws.take n) := by
  obtain ⟨p, c', e, hc, hp⟩ := h
  injection e with e1 e2 e3
  subst e1; subst e3
  refine ⟨_, c, by rw [List.length_take, Nat.min_eq_left hn], by rw [List.length_take]; omega, fun hne => ?_⟩
  obtain ⟨g', o', e, hg, hcell⟩ := hp (fun h => hne (by rw [h]; simp))
  refine ⟨g', o', e, hg, fun j hj => ?_⟩
  rw [List.length_take] at hj
  rw [hcell j (by omega), List.getElem_take]

theorem row_drop {w : World} {g o c : Nat} {ws : List Int} (h : RowIn w (.slice (some ⟨g, o, none⟩) ws.length c) ws) (n : Nat) (hn : n ≤ ws.length) : RowIn w (.slice (some ⟨g, o + n, none⟩) (ws.length - n) (c - n)) (ws.drop n) := by
  obtain ⟨p, c', e, hc, hp⟩ := h
  injection e with e1 e2 e3
  subst e1; subst e3
  refine ⟨_, c - n, by rw [List.length_drop], by rw [List.length_drop]; omega, fun hne => ?_⟩
  have hlt : n < ws.length := by
    apply Decidable.byContradiction
    intro h
    exact hne (List.drop_eq_nil_of_le (by omega))
  obtain ⟨g', o', e, hg, hcell⟩ := hp (fun h => by rw [h] at hlt; cases hlt)
  injection e with e
  injection e with e1 e2
  subst e1; subst e2
  refine ⟨g, o + n, rfl, hg, fun j hj => ?_⟩
  rw [List.length_drop] at hj
  rw [show o + n + j = o + (n + j) by omega, hcell (n + j) (by omega), List.getElem_drop]

theorem two_call {n : Nat} {W0 W w5 : World} (hz : n + 2 ≤ W0.heap.size) (h : Below (n + 1) W0 W ∧ Row2 W (n + 1)) (k : Below W.heap.size W w5) : Below (n + 1) W0 w5 ∧ Row2 w5 (n + 1) := by
  have hs := h.1.size
  refine ⟨h.1.trans (k.mono (by omega)), ?_⟩
  obtain ⟨Z, hZ, hz⟩ := h.2
  exact ⟨Z, (k.block (n + 1) (by omega)).trans hZ, hz⟩

theorem two_store {n : Nat} {W0 W : World} (V : Array Value) (hV : V.size = 44) (h : Below (n + 1) W0 W ∧ Row2 W (n + 1)) : Below (n + 1) W0 (W.setRow (n + 1) V) ∧ Row2 (W.setRow (n + 1) V) (n + 1) :=
  ⟨below_setRow h.1 (Nat.le_refl _) _, V, row2_set h.2 V, hV⟩

theorem words_nat (m h : Nat) (hh : h = m + 2) (h1 : 1 ≤ m) (h20 : m ≤ 20) (w : World) :
    Calls Try.prog 33 #[.int .i64 m] w fun e w' => e = .returned (.int .i64 h) ∧ w' = w := by
  have := words_calls m (by omega) (by omega) w
  rw [hh]
  exact this

theorem row_in_of {w W : World} {a : Value} {l : List Int} {B : Nat} (h : RowIn w a l) (hB : w.heap.size ≤ B) {W0 : World} (h0 : Below w.heap.size w W0) (hW : Below B W0 W) : RowIn W a l := h.on (h0.trans (hW.mono hB))

set_option maxRecDepth 20000 in
set_option maxHeartbeats 1000000 in
theorem copiesOf_calls (m h : Nat) (hh : h = m + 2) (h1 : 1 ≤ m) (h20 : m ≤ 20) (ws : List Int) (hws : ws.length = 2 * h) (a : Value) (w : World) (ha : RowIn w a ws) :
    Calls Try.prog 18 #[.agg #[.int .i64 m, a]] w fun e w' => e = .returned (.agg (copyV (ws.take h) ++ copyV (ws.drop h))) ∧ Below w.heap.size w w' := by
  have HA := hid ha
  obtain ⟨p, c, rfl, hc, hp⟩ := ha
  obtain ⟨g, o, rfl, hg, hp0⟩ := hp (fun h => by rw [h] at hws; simp at hws; omega)
  clear hp
  have hA := copyV_size (ws.take h) (by rw [List.length_take]; omega) (by rw [List.length_take]; omega)
  have hB := copyV_size (ws.drop h) (by rw [List.length_drop]; omega) (by rw [List.length_drop]; omega)
  have hbuild := buildD_run _ _ hA hB
  have HT := hid (row_take HA.out h (by omega))
  have HD := hid (row_drop HA.out h (by omega))
  have lT : (ws.take h).length = (m + 1) + 1 := by rw [List.length_take]; omega
  have lD : (ws.drop h).length = (m + 1) + 1 := by rw [List.length_drop]; omega
  have RT := hid (fun a W hW => readCopy_calls (ws.take h) (m + 1) lT (by omega) (by omega) a W hW)
  have RD := hid (fun a W hW => readCopy_calls (ws.drop h) (m + 1) lD (by omega) (by omega) a W hW)
  have o1 : (copyV (ws.take h) ++ copyV (ws.drop h)).size = 44 := by rw [Array.size_append, hA, hB]
  have o2 : (copyV (ws.take h) ++ copyV (ws.drop h)).all (·.oneCell') = true := by rw [Array.all_append, copyV, copyV, nvc_one, nvc_one]; rfl
  have hst := storeD_run _ o1 o2
  have O1 := hid o1
  clear o1 o2 lT lD hA hB
  rw [show ws.length - h = h by omega] at HD
  obtain ⟨N, hN⟩ : ∃ N, N = 2 * h := ⟨_, rfl⟩
  rw [← hN] at hws
  rw [hws] at hc ⊢
  generalize copyV (ws.take h) = A at *
  generalize copyV (ws.drop h) = B at *
  have b1 : (0 : Int) ≤ (h : Int) := by omega
  have b2 : (h : Int) ≤ (c : Int) := by omega
  have b3 : (h : Int) ≤ (N : Int) := by omega
  have b4 : ¬ c = h := by omega
  have b5 : N - h = h := by omega
  have HW := hid (fun w => words_nat m h hh h1 h20 w)
  clear hN hws hp0 hh
  
  go_enter Try.func18, Try.ntmps18
  go_wp2_with (go_at_call 33; refine (HW.out _).mono ?_; rintro e w1 ⟨rfl, rfl⟩)
  generalize hW0 : ((w.alloc _).alloc _) = W0
  have e1 : W0.heap[w.heap.size]? = some (.cells #[.int .i64 m, .slice (some ⟨g, o, none⟩) N c] 26) := by rw [← hW0]; exact heap_alloc2_old _ _ _
  have e2 : Row2 W0 (w.heap.size + 1) := by rw [← hW0]; exact ⟨_, heap_alloc2_new _ _ _, rfl⟩
  have e3 : w.heap.size + 2 ≤ W0.heap.size := by rw [← hW0]; simp
  have e4 : Below w.heap.size w W0 := by rw [← hW0]; exact ((Below.refl _ _).alloc (Nat.le_refl _) _).alloc (by simp) _
  have E2 := hid e2
  have E3 := hid e3
  have E4 := hid e4
  have CT := hid (fun W (h : Below (w.heap.size + 1) W0 W ∧ Row2 W (w.heap.size + 1)) => RT.out _ W (row_in_of HT.out (Nat.le_succ _) E4.out h.1))
  have CD := hid (fun W (h : Below (w.heap.size + 1) W0 W ∧ Row2 W (w.heap.size + 1)) => RD.out _ W (row_in_of HD.out (Nat.le_succ _) E4.out h.1))
  have hcell : ∀ W : World, Below (w.heap.size + 1) W0 W → W.cell? ⟨w.heap.size, 1, none⟩ = some (.slice (some ⟨g, o, none⟩) N c) := fun W hW => by
    rw [cell_of_row W _ 1 _ _ _ ((hW.block _ (Nat.lt_succ_self _)).trans e1)]; rfl
  clear hW0 e1 e2 e3 e4
  go_region_held3 (fun w' => Below (w.heap.size + 1) W0 w' ∧ Row2 w' (w.heap.size + 1)) (first | with_reducible assumption | exact ⟨Below.drew (Below.refl _ _), E2.out⟩ | exact two_call E3.out (by assumption) (by assumption) | exact two_store _ O1.out (by assumption)) ((first | (go_at_call_of 41 (Value.slice (some ⟨g, o, none⟩) h c); refine (CT.out _ (by assumption)).mono ?_; rintro e w5 ⟨rfl, hb5⟩) | (go_at_call_of 41 (Value.slice (some ⟨g, o + h, none⟩) h (c - h)); refine (CD.out _ (by assumption)).mono ?_; rintro e w5 ⟨rfl, hb5⟩)))
  rename_i hS
  have HS := hid hS
  clear hS
  go_wp2
  refine bodyPost_ret (v := .agg (A ++ B)) (results_cell_row (p := 2) Try.results18 _ _ (w.heap.size + 1) 47 _ (0, 0) _ rfl (row2_had HS.out.2) Try.underlying47 rfl (by rw [O1.out]; kernel_rfl)) rfl ⟨rfl, E4.out.trans (HS.out.1.mono (Nat.le_succ _))⟩
end Go.Proofs.Ytknipcnlaaapoaa
