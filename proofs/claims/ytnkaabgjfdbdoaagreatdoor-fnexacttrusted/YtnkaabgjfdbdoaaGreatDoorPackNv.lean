/- Laid together: NvRead, NvEq, NvTwo, NvStand, NvWith, NvTell, NvNewI, NvApp, NvMake. -/
import Derived.Test.YtnkaabgjfdbdoaaGreatDoorPackTab
import Derived.Deep.RegionHeld3
import Derived.Deep.WholeRow
import Derived.Test.YtnkaabgjfdbdoaaGreatDoorBase

namespace Go.Proofs.YtnkaabgjfdbdoaaGreatDoor
open Go.RowKit
open Go.Lib (hid)

/-! The operations on a copy as a whole, under names of their own: so that the walk does not open them into 22 cells. -/
def buildC (parts : Array (Nat × Value)) : Sem Value := Instr.build 238 parts
def storeC (p v : Value) : Sem Unit := Instr.storeAt 238 p v
def loadC (p : Value) : Sem Value := Instr.loadAt 238 p
theorem buildC_eq : Instr.build 238 = buildC := rfl
theorem storeC_eq : Instr.storeAt 238 = storeC := rfl
theorem loadC_eq : Instr.loadAt 238 = loadC := rfl

theorem storeC_new (W : World) (c' V : Array Value) (h' : c'.size = 22) (hV : V.size = 22) (h1 : V.all (·.oneCell') = true) : (storeC (.pointer (some ⟨W.heap.size, 0, none⟩)) (.agg V)).run Tryz.prog (W.alloc (.cells c' 238)) = .ok () (W.alloc (.cells V 238)) :=
  run_storeAt_new W _ _ _ (by rw [hV]; kernel_rfl) (by rw [hV]; exact h') h1

theorem storeC_new2 (W : World) (O : Obj) (c' V : Array Value) (h' : c'.size = 22) (hV : V.size = 22) (h1 : V.all (·.oneCell') = true) : (storeC (.pointer (some ⟨W.heap.size + 1, 0, none⟩)) (.agg V)).run Tryz.prog ((W.alloc O).alloc (.cells c' 238)).drew = .ok () ((W.alloc O).alloc (.cells V 238)).drew := by
  have h := storeC_new (W.alloc O).drew c' V h' hV h1
  have e : (W.alloc O).drew.heap.size = W.heap.size + 1 := by simp
  rw [e] at h
  exact h

def noughts (n : Nat) : List Int := List.replicate n 0

theorem noughts_len (n : Nat) : (noughts n).length = n := by simp [noughts]

theorem built_ends (x0 x1 : Int) : Tryz.prog.built 238 #[(0, Value.int .i64 x0), (2, Value.int .i64 x1)].toList = some (nvc x0 (noughts 20) x1) := by kernel_rfl

theorem buildC_ends (x0 x1 : Int) (W : World) : (buildC #[(0, .int .i64 x0), (2, .int .i64 x1)]).run Tryz.prog W = .ok (.agg (nvc x0 (noughts 20) x1)) W := run_build W _ _ _ (built_ends x0 x1)

/-- The numbers of a copy, with noughts behind them. -/
def padN (l : List Int) : List Int := (l.drop 1).take (l.length - 2) ++ noughts (22 - l.length)

/-- A copy as the program holds it. -/
def copyV (l : List Int) : Array Value := nvc (l.getD 0 0) (padN l) (l.getD (l.length - 1) 0)

theorem splice_nvc (x0 x1 : Int) (mid : List Int) (n1 : Nat) (hml : mid.length = n1 - 1) (h2 : 1 ≤ n1) (h22 : n1 ≤ 21) : (splice (Value.int .i64 x0 :: (ints (noughts 20) ++ [Value.int .i64 x1])) 1 (ints mid)).toArray = nvc x0 (mid ++ noughts (20 - mid.length)) x1 := by
  have hd : (ints (noughts 20)).drop mid.length = ints (noughts (20 - mid.length)) := by unfold ints noughts; rw [List.map_replicate, List.map_replicate, List.drop_replicate]
  unfold splice nvc
  rw [List.take_succ_cons, List.take_zero, Nat.add_comm 1, List.drop_succ_cons, ints_len, List.drop_append_of_le_length (by rw [ints_len, noughts_len]; omega), hd, ints_append]
  simp

attribute [local go_sem ↓] buildC_eq storeC_eq loadC_eq

set_option maxRecDepth 20000 in
set_option maxHeartbeats 1000000 in
theorem readCopy_calls (l : List Int) (n1 : Nat) (hl : l.length = n1 + 1) (h2 : 1 ≤ n1) (h22 : n1 ≤ 21) (a : Value) (w : World) (ha : RowIn w a l) :
    Calls Tryz.prog 203 #[a] w fun e w' => e = .returned (.agg (copyV l)) ∧ Below w.heap.size w w' := by
  obtain ⟨p, c, rfl, hc, hp⟩ := ha
  obtain ⟨g, o, rfl, hg, hcell⟩ := hp (fun h => by rw [h] at hl; simp at hl)
  have hx0 := hcell 0 (by omega)
  have hx1 := hcell n1 (by omega)
  have HC := hid hcell
  have e0 : l[0] = l.getD 0 0 := by simp [List.getD, show 0 < l.length by omega]
  have e1 : l[n1] = l.getD (l.length - 1) 0 := by simp [List.getD, hl]
  rw [e0] at hx0
  rw [e1] at hx1
  unfold copyV
  generalize hk0 : l.getD 0 0 = x0 at *
  generalize hk1 : l.getD (l.length - 1) 0 = x1 at *
  rw [Nat.add_zero] at hx0
  rw [hl] at hc ⊢
  clear hcell e0 e1
  have b1 : (0 : Int) ≤ (n1 : Int) := by omega
  have b2 : (n1 : Int) < (n1 : Int) + 1 := by omega
  have hbuild := buildC_ends x0 x1
  have hst := fun W O c' h' => storeC_new2 W O c' (nvc x0 (noughts 20) x1) h' (nvc_size _ _ _ (noughts_len 20)) (nvc_one _ _ _)
  obtain ⟨mid, hmid⟩ : ∃ mid, mid = (l.drop 1).take (n1 - 1) := ⟨_, rfl⟩
  have hml : mid.length = n1 - 1 := by rw [hmid]; simp; omega
  have hcn : (ints mid).length = Nat.min (n1 - 1) 20 := by rw [ints_len, hml]; exact (Nat.min_eq_left (by omega)).symm
  have hcf : 1 + (ints mid).length ≤ (Value.int .i64 x0 :: (ints (noughts 20) ++ [Value.int .i64 x1])).length := by simp [ints_len, noughts_len]; omega
  have HCP : Hid (∀ W : World, Below w.heap.size w W → ∀ j v, (ints mid)[j]? = some v → W.cell? ((⟨g, o + 1, none⟩ : Addr).add j) = some v) := hid fun W hW j v hv => by
    have hj : j < mid.length := by rw [← ints_len]; exact (List.getElem?_eq_some_iff.1 hv).1
    rw [Addr.add_mid, hW.cell (p := ⟨g, o + 1 + j, none⟩) hg]
    rw [ints_at mid j hj] at hv
    injection hv with hv
    rw [← hv, show o + 1 + j = o + (1 + j) by omega, HC.out (1 + j) (by omega)]
    have : mid[j]? = l[1 + j]? := by rw [hmid, List.getElem?_take, if_pos (by omega), List.getElem?_drop]
    rw [List.getElem?_eq_getElem hj, List.getElem?_eq_getElem (by omega)] at this
    injection this with this
    rw [this]
  have HMID := hid hmid
  clear hmid hp
  have b3 : (1 : Int) ≤ (n1 : Int) := by omega
  have b4 : (n1 : Int) ≤ (c : Int) := by omega
  go_enter Tryz.func203, Tryz.ntmps203
  go_wp2
  go_region_held3 (fun w' => w'.cell? ⟨g, o, none⟩ = some (.int .i64 x0) ∧ w'.cell? ⟨g, o + n1, none⟩ = some (.int .i64 x1)) (go_keep) (fail)
  go_wp2
  go_region_held3 (fun _ => True) (trivial) ((refine step_copy_splice rfl (.tmp 17) (.tmp 20) 22 22 rfl 2 Tryz.underlying22 (by kernel_rfl) (some ⟨w.heap.size + 1, 1, none⟩) (some ⟨g, o + 1, none⟩) 20 20 (n1 - 1) (c - 1) (by rfl) (by simp [Act.eval, show ¬ c = 1 by omega]) (w.heap.size + 1) 1 (Value.int .i64 x0 :: (ints (noughts 20) ++ [Value.int .i64 x1])) 238 (heap_alloc2_new w _ _) (ints mid) hcn (fun _ => ⟨rfl, _, rfl, HCP.out _ (Below.drew (Below.drew (((Below.refl _ _).alloc (Nat.le_refl _) _).alloc (by simp) _)))⟩) hcf (ints_one mid) (w.heap.size + 1) _ (Below.refl _ _) (Nat.le_refl _) ?_; intro w4 hg4 hb4))
  have HV := hid (splice_nvc x0 x1 mid n1 hml h2 h22)
  have hz4 := hb4.size
  have hw4 : w4.heap[w.heap.size]? = _ := (hb4.block w.heap.size (Nat.lt_succ_self _)).trans (heap_alloc2_old w _ _)
  have HW4 := hid hw4
  have HR := hid hg4.out
  have HB := hid hb4
  clear hb4 hw4 hg4
  have hsz := nvc_size x0 x1 (mid ++ noughts (20 - mid.length)) (by rw [List.length_append, noughts_len]; omega)
  rw [HV.out] at HR
  go_wp2_with (first | (refine wpList_load_row rfl 238 _ rfl (w.heap.size + 1) rfl 238 _ (0, 0) _ HR.out Tryz.underlying238 rfl ?_ ?_; (· rw [hsz]; kernel_rfl)) | (refine wpList_store_row rfl 238 _ _ rfl w.heap.size _ rfl rfl 238 _ HW4.out ?_ ?_ (nvc_one _ _ _) ?_; (· rw [hsz]; kernel_rfl); (· rw [hsz]; rfl)))
  have hpad : padN l = mid ++ noughts (20 - (n1 - 1)) := by
    unfold padN
    rw [hl, show n1 + 1 - 2 = n1 - 1 by omega, ← HMID.out, show 22 - (n1 + 1) = 20 - (n1 - 1) by omega]
  rw [hml] at hsz
  refine bodyPost_ret (v := .agg (nvc x0 (mid ++ noughts (20 - (n1 - 1))) x1)) (results_cell_row (p := 2) Tryz.results203 _ _ w.heap.size 238 _ (0, 0) _ rfl (setRow_heap _ _ _ _ _ _ HW4.out) Tryz.underlying238 rfl (by rw [hsz]; kernel_rfl)) rfl ⟨?_, ?_⟩
  · rw [hpad]
  · refine below_setRow ?_ (Nat.le_refl _) _
    refine Below.trans ?_ (HB.out.mono (Nat.le_succ _))
    exact Below.drew (Below.drew (((Below.refl _ _).alloc (Nat.le_refl _) _).alloc (by simp) _))
end Go.Proofs.YtnkaabgjfdbdoaaGreatDoor

namespace Go.Proofs.YtnkaabgjfdbdoaaGreatDoor
open Go.RowKit
open Go.Lib (hid)

theorem part_int (l : List Int) (i : Nat) (hi : i < l.length) (w : World) : (part 2 (ints l).toArray i).run Tryz.prog w = .ok (.int .i64 l[i]) w := by
  have h2 := ints_at l i hi
  simp [part, Sem.run_bind, Tryz.isAgg2, h2]

theorem eq_arr (d : Nat) (l : List Int) (hn : l.length = 20) (w : World) : (Op.equalIn (d + 2) 236 (.agg (ints l).toArray) (.agg (ints l).toArray)).run Tryz.prog w = .ok true w := by
  have key : ∀ m s, s + m ≤ l.length → (forIn (m := Sem) (List.range' s m) ((none, ()) : Option Bool × Unit) fun i _ => do
      let a ← part 2 (ints l).toArray i
      let b ← part 2 (ints l).toArray i
      let r ← Op.equalIn (d + 1) 2 a b
      if r = false then pure (ForInStep.done (some false, ())) else pure (ForInStep.yield (none, ()))).run Tryz.prog w = .ok (none, ()) w := by
    intro m
    induction m with
    | zero => intro s _; simp
    | succ m ih =>
      intro s hs
      have hp := part_int l s (by omega) w
      have hq := run_equalIn_int (P := Tryz.prog) w d 2 .i64 .i64 l[s] l[s] Tryz.underlying2
      rw [List.range'_succ, List.forIn_cons, Sem.run_bind]
      simp only [Sem.run_bind, hp, hq, Result.andThen_ok, beq_self_eq_true, Bool.true_eq_false, if_false, Sem.run_pure]
      exact ih (s + 1) (by omega)
  have hu := Tryz.underlying236
  have hk := key 20 0 (by omega)
  rw [Op.equalIn]
  simp only [Sem.run_bind, run_underlying hu, Result.andThen_ok, Tryz.sizeOf2, Nat.mul_one]
  simp [hk]

theorem nvc_mid (k c : Int) (ns : List Int) (hn : ns.length = 20) : (nvc k ns c).extract 1 21 = (ints ns).toArray := by
  unfold nvc
  apply Array.ext'
  rw [List.extract_toArray]
  simp [ints, hn]

def eqC (x y : Value) : Sem Value := binOp .eql 238 x y
theorem eqC_eq : binOp .eql 238 = eqC := rfl

theorem eqC_run (k k' c : Int) (ns : List Int) (hn : ns.length = 20) (w : World) : (eqC (.agg (nvc k ns c)) (.agg (nvc k' ns c))).run Tryz.prog w = .ok (.bool (k == k')) w := by
  have q1 : ∀ (a b : Int) (W : World), (Op.equalIn 9999 2 (.int .i64 a) (.int .i64 b)).run Tryz.prog W = .ok (a == b) W := fun a b W => run_equalIn_int (P := Tryz.prog) W 9998 2 .i64 .i64 a b Tryz.underlying2
  have q2 : ∀ W, (Op.equalIn 9999 236 (.agg (ints ns).toArray) (.agg (ints ns).toArray)).run Tryz.prog W = .ok true W := fun W => eq_arr 9997 ns hn W
  have h0 := fun k => nvc_first k c ns
  have h1 := fun k => nvc_last k c ns hn
  have h2 := fun k => nvc_mid k c ns hn
  unfold eqC
  simp [go_sem, h0, h1, h2, q1, q2]
  cases hk : k == k'
  · simpa using hk
  · simpa using hk

theorem below_step {B : Nat} {a b c : World} (h : Below B a b) (hB : B ≤ a.heap.size) (k : Below b.heap.size b c) : Below B a c := h.trans (k.mono (Nat.le_trans hB h.size))

/-- Is a copy whole? -/
def wholeB (k : Int) (ns : List Int) (c : Int) : Bool := decide (1 ≤ c) && (k == 1 + (c + ns.sum) % 999983)

attribute [local go_sem ↓] buildC_eq storeC_eq loadC_eq eqC_eq

theorem loadC_row (V : Array Value) (hV : V.size = 22) (b : Nat) (W : World) (fr : Nat × Nat) (h : W.heap[b]? = some (.cells V 238 fr)) : (loadC (.pointer (some ⟨b, 0, none⟩))).run Tryz.prog W = .ok (.agg V) W := by
  unfold loadC
  simp only [Instr.loadAt, Instr.sureAddr, Sem.run_bind, Sem.run_pure, Result.andThen]
  exact run_loadVar_row W b _ _ V fr _ h Tryz.underlying238 rfl (by rw [hV]; kernel_rfl)

set_option maxRecDepth 20000 in
set_option maxHeartbeats 1000000 in
theorem whole_calls (k c : Int) (ns : List Int) (hn : ns.length = 20) (hb : Numb ns) (hc : 0 ≤ c ∧ c ≤ 1000000000) (w : World) :
    Calls Tryz.prog 204 #[.agg (nvc k ns c)] w fun e w' => e = .returned (.bool (wholeB k ns c)) ∧ Below w.heap.size w w' := by
  have h21 := nvc_last k c ns hn
  have HN := hid hb
  clear hb
  by_cases h1 : 1 ≤ c
  · have d1 : decide (c ≥ 1) = true := decide_eq_true h1
    have e : wholeB k ns c = (k == 1 + (c + ns.sum) % 999983) := by simp [wholeB, h1]
    rw [e]
    clear e
    have heq := fun k' => eqC_run k k' c ns hn
    have hload : ∀ W : World, Below (w.heap.size + 1) (w.alloc (.cells (nvc k ns c) 238)) W → (loadC (.pointer (some ⟨w.heap.size, 0, none⟩))).run Tryz.prog W = .ok (.agg (nvc k ns c)) W := fun W hW => loadC_row _ (nvc_size _ _ _ hn) _ W (0, 0) ((hW.block _ (Nat.lt_succ_self _)).trans (heap_alloc_new _ _))
    have hcell : ∀ W : World, Below (w.heap.size + 1) (w.alloc (.cells (nvc k ns c) 238)) W → W.cell? ⟨w.heap.size, 21, none⟩ = some (.int .i64 c) := fun W hW => by
      rw [cell_of_row W _ 21 _ _ _ ((hW.block _ (Nat.lt_succ_self _)).trans (heap_alloc_new _ _))]; exact h21
    go_enter Tryz.func204, Tryz.ntmps204
    go_wp2_with fail
    go_region_held3 (fun w' => Below (w.heap.size + 1) (w.alloc (.cells (nvc k ns c) 238)) w') (first | exact Below.drew (Below.refl _ _) | exact below_step (by assumption) (by simp) (by assumption)) ((go_at_call 221; refine (checked_calls k c ns hn HN.out ⟨hc.1, by omega⟩ _).mono ?_; rintro e w5 ⟨rfl, hb5⟩))
    rename_i hS
    go_wp2
    go_ret
    exact ⟨rfl, ((Below.refl _ _).alloc (Nat.le_refl _) _).trans (hS.mono (Nat.le_succ _))⟩
  · have d1 : decide (c ≥ 1) = false := decide_eq_false h1
    have e : wholeB k ns c = false := by simp [wholeB, h1]
    rw [e]
    go_enter Tryz.func204, Tryz.ntmps204
    go_wp2
    go_quiet (fail)
    go_wp2
    go_ret
    exact ⟨rfl, drewN_below ((Below.refl _ _).alloc (Nat.le_refl _) _) _⟩
end Go.Proofs.YtnkaabgjfdbdoaaGreatDoor

namespace Go.Proofs.YtnkaabgjfdbdoaaGreatDoor
open Go.RowKit
open Go.Lib (hid)

def buildD (parts : Array (Nat × Value)) : Sem Value := Instr.build 239 parts
def storeD (p v : Value) : Sem Unit := Instr.storeAt 239 p v
def loadD (p : Value) : Sem Value := Instr.loadAt 239 p
theorem buildD_eq : Instr.build 239 = buildD := rfl
theorem storeD_eq : Instr.storeAt 239 = storeD := rfl
theorem loadD_eq : Instr.loadAt 239 = loadD := rfl

theorem fill_list (off : Nat) : ∀ (L : List Value) (k : Nat) (cs : Array Value), off + k + L.length ≤ cs.size → (L.zipIdx k).foldl (fun cs x => cs.setIfInBounds (off + x.2) x.1) cs = (cs.toList.take (off + k) ++ (L ++ cs.toList.drop (off + k + L.length))).toArray := by
  intro L
  induction L with
  | nil => intro k cs _; simp
  | cons v L ih =>
    intro k cs h
    simp only [List.length_cons] at h
    rw [List.zipIdx_cons, List.foldl_cons, ih (k + 1) _ (by rw [Array.size_setIfInBounds]; omega)]
    congr 1
    rw [Array.toList_setIfInBounds, show off + (k + 1) = off + k + 1 by omega, List.drop_set_of_lt (by omega), List.take_succ_eq_append_getElem (by simp; omega), List.take_set_of_le (by omega), List.getElem_set_self]
    simp only [List.length_cons, List.append_assoc, List.cons_append, List.nil_append]
    rw [show off + k + (L.length + 1) = off + k + 1 + L.length by omega]

theorem fill_array (off : Nat) (A cs : Array Value) (h : off + A.size ≤ cs.size) : A.zipIdx.foldl (fun cs x => cs.setIfInBounds (off + x.2) x.1) cs = (cs.toList.take off ++ (A.toList ++ cs.toList.drop (off + A.size))).toArray := by
  rw [← Array.foldl_toList, Array.toList_zipIdx]
  have := fill_list off A.toList 0 cs (by simpa using h)
  simpa using this

set_option maxRecDepth 20000 in
theorem built_two (A B : Array Value) (hA : A.size = 22) (hB : B.size = 22) : Tryz.prog.built 239 #[(0, Value.agg A), (1, Value.agg B)].toList = some (A ++ B) := by
  unfold Program.built
  have h1 : (Tryz.prog.info? 239).map (fun i => i.zero) = some (some (.agg (Array.replicate 44 (.int .i64 0)))) := by kernel_rfl
  have h2 : (Tryz.prog.info? 238).map (fun i => i.size) = some 22 := by kernel_rfl
  obtain ⟨i1, hi1, hz1⟩ := Option.map_eq_some_iff.1 h1
  obtain ⟨i2, hi2, hz2⟩ := Option.map_eq_some_iff.1 h2
  have f1 := fill_array 0 A (Array.replicate 44 (.int .i64 0)) (by simp; omega)
  have f2 := fill_array 22 B ((Array.replicate 44 (Value.int .i64 0)).toList.take 0 ++ (A.toList ++ (Array.replicate 44 (Value.int .i64 0)).toList.drop (0 + A.size))).toArray (by simp; omega)
  rw [← f1] at f2
  simp only [hi1, hz1, hi2, hz2, Tryz.underlying239]
  have z1 : ((Value.agg A).cells.size ≠ 22 || decide (0 * 22 + (Value.agg A).cells.size > (Array.replicate 44 (Value.int .i64 0)).size)) = false := by simp [Value.cells, hA]
  show Instr.fill _ (Array.replicate 44 (Value.int .i64 0)) _ = _
  simp only [Instr.fill, z1, Bool.false_eq_true, if_false]
  simp only [Nat.zero_mul, Nat.one_mul, Value.cells]
  rw [if_neg (by rw [f1]; simp [hA, hB]), f2]
  congr 1
  rw [f1]
  apply Array.ext'
  simp [hA, hB]

attribute [local go_sem ↓] buildD_eq storeD_eq loadD_eq loadC_eq

theorem buildD_run (A B : Array Value) (hA : A.size = 22) (hB : B.size = 22) (W : World) : (buildD #[(0, .agg A), (1, .agg B)]).run Tryz.prog W = .ok (.agg (A ++ B)) W := run_build W _ _ _ (built_two A B hA hB)

/-- The row of both copies, whatever it holds. -/
def Row2 (W : World) (b : Nat) : Prop := ∃ Z : Array Value, W.heap[b]? = some (.cells Z 239 (0, 0)) ∧ Z.size = 44

theorem storeD_run (V : Array Value) (hV : V.size = 44) (h1 : V.all (·.oneCell') = true) (b : Nat) (W : World) (h : Row2 W b) : (storeD (.pointer (some ⟨b, 0, none⟩)) (.agg V)).run Tryz.prog W = .ok () (W.setRow b V) := by
  obtain ⟨Z, hZ, hz⟩ := h
  unfold storeD
  simp only [Instr.storeAt, Instr.sureAddr, Sem.run_bind, Sem.run_pure, Result.andThen_ok]
  exact run_storeVar_row W b _ _ Z V hZ (by rw [hV]; kernel_rfl) (by rw [hV, hz]) h1

theorem row2_set {W : World} {b : Nat} (h : Row2 W b) (V : Array Value) : (W.setRow b V).heap[b]? = some (.cells V 239 (0, 0)) := by
  obtain ⟨Z, hZ, hz⟩ := h
  exact setRow_heap _ _ _ _ _ _ hZ

theorem row2_had {W : World} {b : Nat} {V : Array Value} (h : Row2 (W.setRow b V) b) : (W.setRow b V).heap[b]? = some (.cells V 239 (0, 0)) := by
  obtain ⟨Z, hZ, hz⟩ := h
  rw [hZ]
  unfold World.setRow at hZ
  simp only [Array.getElem?_modify] at hZ
  cases hg : W.heap[b]? with
  | none => rw [hg] at hZ; simp at hZ
  | some o =>
    rw [hg] at hZ
    simp at hZ
    cases o with
    | cells cs t fr => simp at hZ; obtain ⟨h1, h2, h3⟩ := hZ; rw [h1]
    | _ => simp at hZ

theorem copyV_size (l : List Int) (h2 : 2 ≤ l.length) (h22 : l.length ≤ 22) : (copyV l).size = 22 := nvc_size _ _ _ (by unfold padN; simp [noughts_len]; omega)

theorem row_take {w : World} {g o c : Nat} {ws : List Int} (h : RowIn w (.slice (some ⟨g, o, none⟩) ws.length c) ws) (n : Nat) (hn : n ≤ ws.length) : RowIn w (.slice (some ⟨g, o, none⟩) n c) (ws.take n) := by
  obtain ⟨p, c', e, hc, hp⟩ := h
  injection e with e1 e2 e3
  subst e1; subst e3
  refine ⟨_, c, by rw [List.length_take, Nat.min_eq_left hn], by rw [List.length_take]; omega, fun hne => ?_⟩
  obtain ⟨g', o', e, hg, hcell⟩ := hp (fun h => hne (by rw [h]; simp))
  refine ⟨g', o', e, hg, fun j hj => ?_⟩
  rw [List.length_take] at hj
  rw [hcell j (by omega), List.getElem_take]

theorem row_drop {w : World} {g o c : Nat} {ws : List Int} (h : RowIn w (.slice (some ⟨g, o, none⟩) ws.length c) ws) (n : Nat) (hn : n ≤ ws.length) : RowIn w (.slice (some ⟨g, o + n, none⟩) (ws.length - n) (c - n)) (ws.drop n) := by
  obtain ⟨p, c', e, hc, hp⟩ := h
  injection e with e1 e2 e3
  subst e1; subst e3
  refine ⟨_, c - n, by rw [List.length_drop], by rw [List.length_drop]; omega, fun hne => ?_⟩
  have hlt : n < ws.length := by
    apply Decidable.byContradiction
    intro h
    exact hne (List.drop_eq_nil_of_le (by omega))
  obtain ⟨g', o', e, hg, hcell⟩ := hp (fun h => by rw [h] at hlt; cases hlt)
  injection e with e
  injection e with e1 e2
  subst e1; subst e2
  refine ⟨g, o + n, rfl, hg, fun j hj => ?_⟩
  rw [List.length_drop] at hj
  rw [show o + n + j = o + (n + j) by omega, hcell (n + j) (by omega), List.getElem_drop]

theorem two_call {n : Nat} {W0 W w5 : World} (hz : n + 2 ≤ W0.heap.size) (h : Below (n + 1) W0 W ∧ Row2 W (n + 1)) (k : Below W.heap.size W w5) : Below (n + 1) W0 w5 ∧ Row2 w5 (n + 1) := by
  have hs := h.1.size
  refine ⟨h.1.trans (k.mono (by omega)), ?_⟩
  obtain ⟨Z, hZ, hz⟩ := h.2
  exact ⟨Z, (k.block (n + 1) (by omega)).trans hZ, hz⟩

theorem two_store {n : Nat} {W0 W : World} (V : Array Value) (hV : V.size = 44) (h : Below (n + 1) W0 W ∧ Row2 W (n + 1)) : Below (n + 1) W0 (W.setRow (n + 1) V) ∧ Row2 (W.setRow (n + 1) V) (n + 1) :=
  ⟨below_setRow h.1 (Nat.le_refl _) _, V, row2_set h.2 V, hV⟩

theorem words_nat (m h : Nat) (hh : h = m + 2) (h1 : 1 ≤ m) (h20 : m ≤ 20) (w : World) :
    Calls Tryz.prog 123 #[.int .i64 m] w fun e w' => e = .returned (.int .i64 h) ∧ w' = w := by
  have := words_calls m (by omega) (by omega) w
  rw [hh]
  exact this

theorem row_in_of {w W : World} {a : Value} {l : List Int} {B : Nat} (h : RowIn w a l) (hB : w.heap.size ≤ B) {W0 : World} (h0 : Below w.heap.size w W0) (hW : Below B W0 W) : RowIn W a l := h.on (h0.trans (hW.mono hB))

set_option maxRecDepth 20000 in
set_option maxHeartbeats 1000000 in
theorem copiesOf_calls (m h : Nat) (hh : h = m + 2) (h1 : 1 ≤ m) (h20 : m ≤ 20) (ws : List Int) (hws : ws.length = 2 * h) (a : Value) (w : World) (ha : RowIn w a ws) :
    Calls Tryz.prog 191 #[.agg #[.int .i64 m, a]] w fun e w' => e = .returned (.agg (copyV (ws.take h) ++ copyV (ws.drop h))) ∧ Below w.heap.size w w' := by
  have HA := hid ha
  obtain ⟨p, c, rfl, hc, hp⟩ := ha
  obtain ⟨g, o, rfl, hg, hp0⟩ := hp (fun h => by rw [h] at hws; simp at hws; omega)
  clear hp
  have hA := copyV_size (ws.take h) (by rw [List.length_take]; omega) (by rw [List.length_take]; omega)
  have hB := copyV_size (ws.drop h) (by rw [List.length_drop]; omega) (by rw [List.length_drop]; omega)
  have hbuild := buildD_run _ _ hA hB
  have HT := hid (row_take HA.out h (by omega))
  have HD := hid (row_drop HA.out h (by omega))
  have lT : (ws.take h).length = (m + 1) + 1 := by rw [List.length_take]; omega
  have lD : (ws.drop h).length = (m + 1) + 1 := by rw [List.length_drop]; omega
  have RT := hid (fun a W hW => readCopy_calls (ws.take h) (m + 1) lT (by omega) (by omega) a W hW)
  have RD := hid (fun a W hW => readCopy_calls (ws.drop h) (m + 1) lD (by omega) (by omega) a W hW)
  have o1 : (copyV (ws.take h) ++ copyV (ws.drop h)).size = 44 := by rw [Array.size_append, hA, hB]
  have o2 : (copyV (ws.take h) ++ copyV (ws.drop h)).all (·.oneCell') = true := by rw [Array.all_append, copyV, copyV, nvc_one, nvc_one]; rfl
  have hst := storeD_run _ o1 o2
  have O1 := hid o1
  clear o1 o2 lT lD hA hB
  rw [show ws.length - h = h by omega] at HD
  obtain ⟨N, hN⟩ : ∃ N, N = 2 * h := ⟨_, rfl⟩
  rw [← hN] at hws
  rw [hws] at hc ⊢
  generalize copyV (ws.take h) = A at *
  generalize copyV (ws.drop h) = B at *
  have b1 : (0 : Int) ≤ (h : Int) := by omega
  have b2 : (h : Int) ≤ (c : Int) := by omega
  have b3 : (h : Int) ≤ (N : Int) := by omega
  have b4 : ¬ c = h := by omega
  have b5 : N - h = h := by omega
  have HW := hid (fun w => words_nat m h hh h1 h20 w)
  clear hN hws hp0 hh
  
  go_enter Tryz.func191, Tryz.ntmps191
  go_wp2_with (go_at_call 123; refine (HW.out _).mono ?_; rintro e w1 ⟨rfl, rfl⟩)
  generalize hW0 : ((w.alloc _).alloc _) = W0
  have e1 : W0.heap[w.heap.size]? = some (.cells #[.int .i64 m, .slice (some ⟨g, o, none⟩) N c] 39) := by rw [← hW0]; exact heap_alloc2_old _ _ _
  have e2 : Row2 W0 (w.heap.size + 1) := by rw [← hW0]; exact ⟨_, heap_alloc2_new _ _ _, rfl⟩
  have e3 : w.heap.size + 2 ≤ W0.heap.size := by rw [← hW0]; simp
  have e4 : Below w.heap.size w W0 := by rw [← hW0]; exact ((Below.refl _ _).alloc (Nat.le_refl _) _).alloc (by simp) _
  have E2 := hid e2
  have E3 := hid e3
  have E4 := hid e4
  have CT := hid (fun W (h : Below (w.heap.size + 1) W0 W ∧ Row2 W (w.heap.size + 1)) => RT.out _ W (row_in_of HT.out (Nat.le_succ _) E4.out h.1))
  have CD := hid (fun W (h : Below (w.heap.size + 1) W0 W ∧ Row2 W (w.heap.size + 1)) => RD.out _ W (row_in_of HD.out (Nat.le_succ _) E4.out h.1))
  have hcell : ∀ W : World, Below (w.heap.size + 1) W0 W → W.cell? ⟨w.heap.size, 1, none⟩ = some (.slice (some ⟨g, o, none⟩) N c) := fun W hW => by
    rw [cell_of_row W _ 1 _ _ _ ((hW.block _ (Nat.lt_succ_self _)).trans e1)]; rfl
  clear hW0 e1 e2 e3 e4
  go_region_held3 (fun w' => Below (w.heap.size + 1) W0 w' ∧ Row2 w' (w.heap.size + 1)) (first | with_reducible assumption | exact ⟨Below.drew (Below.refl _ _), E2.out⟩ | exact two_call E3.out (by assumption) (by assumption) | exact two_store _ O1.out (by assumption)) ((first | (go_at_call_of 203 (Value.slice (some ⟨g, o, none⟩) h c); refine (CT.out _ (by assumption)).mono ?_; rintro e w5 ⟨rfl, hb5⟩) | (go_at_call_of 203 (Value.slice (some ⟨g, o + h, none⟩) h (c - h)); refine (CD.out _ (by assumption)).mono ?_; rintro e w5 ⟨rfl, hb5⟩)))
  rename_i hS
  have HS := hid hS
  clear hS
  go_wp2
  refine bodyPost_ret (v := .agg (A ++ B)) (results_cell_row (p := 2) Tryz.results191 _ _ (w.heap.size + 1) 239 _ (0, 0) _ rfl (row2_had HS.out.2) Tryz.underlying239 rfl (by rw [O1.out]; kernel_rfl)) rfl ⟨rfl, E4.out.trans (HS.out.1.mono (Nat.le_succ _))⟩
end Go.Proofs.YtnkaabgjfdbdoaaGreatDoor

namespace Go.Proofs.YtnkaabgjfdbdoaaGreatDoor
open Go.RowKit
open Go.Lib (hid)

attribute [local go_sem ↓] buildD_eq storeD_eq loadD_eq loadC_eq

theorem loadC_mid (V : Array Value) (hV : V.size = 22) (b o : Nat) (W : World) (h : W.rangeAt b o V.toList) : (loadC (.pointer (some ⟨b, o, none⟩))).run Tryz.prog W = .ok (.agg V) W := by
  unfold loadC
  have := run_loadAt_mid (P := Tryz.prog) W b o 238 V.toList _ h Tryz.underlying238 rfl (by rw [Array.length_toList, hV]; kernel_rfl)
  simpa using this

theorem range_two (A B : Array Value) (hA : A.size = 22) (b : Nat) (W : World) (t : TypeId) (fr : Nat × Nat) (h : W.heap[b]? = some (.cells (A ++ B) t fr)) : W.rangeAt b 0 A.toList ∧ W.rangeAt b 22 B.toList := by
  constructor
  · intro j v hv
    rw [cell_of_row W b (0 + j) _ t fr h]
    have hj := (List.getElem?_eq_some_iff.1 hv).1
    rw [Array.length_toList] at hj
    rw [Nat.zero_add, Array.getElem?_append_left hj]
    simpa using hv
  · intro j v hv
    rw [cell_of_row W b (22 + j) _ t fr h, Array.getElem?_append_right (by omega), hA, Nat.add_sub_cancel_left]
    simpa using hv

/-- Which copy stands: 1, 0, or none. -/
def standP (fa fb : Bool) (ca cb : Int) : Int × Bool := if fb && (!fa || decide (cb > ca)) then (1, true) else (0, fa)

set_option maxRecDepth 20000 in
set_option maxHeartbeats 1000000 in
theorem standing_calls (ka kb ca cb : Int) (na nb : List Int) (hna : na.length = 20) (hnb : nb.length = 20) (ha : Numb na) (hb : Numb nb) (hca : 0 ≤ ca ∧ ca ≤ 1000000000) (hcb : 0 ≤ cb ∧ cb ≤ 1000000000) (w : World) :
    Calls Tryz.prog 192 #[.agg (nvc ka na ca ++ nvc kb nb cb)] w fun e w' => e = .returned (.tuple #[.int .i64 (standP (wholeB ka na ca) (wholeB kb nb cb) ca cb).1, .bool (standP (wholeB ka na ca) (wholeB kb nb cb) ca cb).2]) ∧ Below w.heap.size w w' := by
  have sA := nvc_size ka ca na hna
  have sB := nvc_size kb cb nb hnb
  have a21 := nvc_last ka ca na hna
  have b21 := nvc_last kb cb nb hnb
  have CA := hid (fun W => whole_calls ka ca na hna ha hca W)
  have CB := hid (fun W => whole_calls kb cb nb hnb hb hcb W)
  clear ha hb hna hnb
  generalize nvc ka na ca = A at *
  generalize nvc kb nb cb = B at *
  generalize wholeB ka na ca = fa at *
  generalize wholeB kb nb cb = fb at *
  have hblk : ∀ W : World, Below (w.heap.size + 1) (w.alloc (.cells (A ++ B) 239)) W → W.heap[w.heap.size]? = some (.cells (A ++ B) 239) := fun W hW => (hW.block _ (Nat.lt_succ_self _)).trans (heap_alloc_new _ _)
  have l1 : ∀ W : World, Below (w.heap.size + 1) (w.alloc (.cells (A ++ B) 239)) W → (loadC (.pointer (some ⟨w.heap.size, 0, none⟩))).run Tryz.prog W = .ok (.agg A) W := fun W hW => loadC_mid A sA _ 0 W (range_two A B sA _ W _ _ (hblk W hW)).1
  have l2 : ∀ W : World, Below (w.heap.size + 1) (w.alloc (.cells (A ++ B) 239)) W → (loadC (.pointer (some ⟨w.heap.size, 22, none⟩))).run Tryz.prog W = .ok (.agg B) W := fun W hW => loadC_mid B sB _ 22 W (range_two A B sA _ W _ _ (hblk W hW)).2
  have c1 : ∀ W : World, Below (w.heap.size + 1) (w.alloc (.cells (A ++ B) 239)) W → W.cell? ⟨w.heap.size, 21, none⟩ = some (.int .i64 ca) := fun W hW => by
    rw [cell_of_row W _ 21 _ _ _ (hblk W hW), Array.getElem?_append_left (by omega)]; exact a21
  have c2 : ∀ W : World, Below (w.heap.size + 1) (w.alloc (.cells (A ++ B) 239)) W → W.cell? ⟨w.heap.size, 43, none⟩ = some (.int .i64 cb) := fun W hW => by
    rw [cell_of_row W _ 43 _ _ _ (hblk W hW), Array.getElem?_append_right (by omega), sA]; exact b21
  clear hblk a21 b21 sA sB
  go_enter Tryz.func192, Tryz.ntmps192
  go_wp2
  go_region_held3 (fun w' => Below (w.heap.size + 1) (w.alloc (.cells (A ++ B) 239)) w') (first | with_reducible assumption | exact Below.drew (Below.refl _ _) | exact below_step (by assumption) (by simp) (by assumption)) ((first | (go_at_call_of 204 (Value.agg A); refine (CA.out _).mono ?_; rintro e w5 ⟨rfl, hb5⟩) | (go_at_call_of 204 (Value.agg B); refine (CB.out _).mono ?_; rintro e w5 ⟨rfl, hb5⟩)))
  rename_i hS
  have k1 := c1 w5 hS
  have k2 := c2 w5 hS
  have HS := hid (((Below.refl w.heap.size w).alloc (Nat.le_refl _) (.cells (A ++ B) 239)).trans (hS.mono (Nat.le_succ _)))
  clear hS l1 l2 c1 c2 hb5
  by_cases hgt : cb > ca
  · have HG : Hid (decide (cb > ca) = true) := hid (decide_eq_true hgt)
    cases fb <;> cases fa
    all_goals
      go_wp2
      go_ret2
      exact ⟨by unfold standP; rw [HG.out]; rfl, HS.out⟩
  · have hd : decide (cb > ca) = false := decide_eq_false hgt
    have HG := hid hd
    cases fb <;> cases fa
    all_goals
      go_wp2
      go_ret2
      exact ⟨by unfold standP; rw [HG.out]; rfl, HS.out⟩
end Go.Proofs.YtnkaabgjfdbdoaaGreatDoor

namespace Go.Proofs.YtnkaabgjfdbdoaaGreatDoor
open Go.RowKit
open Go.Lib (hid)

attribute [local go_sem ↓] buildC_eq storeC_eq loadC_eq

theorem built_count (c : Int) : Tryz.prog.built 238 #[(2, Value.int .i64 c)].toList = some (nvc 0 (noughts 20) c) := by kernel_rfl

theorem buildC_count (c : Int) (W : World) : (buildC #[(2, .int .i64 c)]).run Tryz.prog W = .ok (.agg (nvc 0 (noughts 20) c)) W := run_build W _ _ _ (built_count c)

theorem storeC_over (V : Array Value) (hV : V.size = 22) (h1 : V.all (·.oneCell') = true) (b : Nat) (W : World) (Z : Array Value) (hz : Z.size = 22) (h : W.heap[b]? = some (.cells Z 238 (0, 0))) : (storeC (.pointer (some ⟨b, 0, none⟩)) (.agg V)).run Tryz.prog W = .ok () (W.setRow b V) := by
  unfold storeC
  simp only [Instr.storeAt, Instr.sureAddr, Sem.run_bind, Sem.run_pure, Result.andThen_ok]
  exact run_storeVar_row W b _ _ Z V h (by rw [hV]; kernel_rfl) (by rw [hV, hz]) h1

theorem storeC_new1 (W : World) (O : Obj) (c' V : Array Value) (h' : c'.size = 22) (hV : V.size = 22) (h1 : V.all (·.oneCell') = true) : (storeC (.pointer (some ⟨W.heap.size + 1, 0, none⟩)) (.agg V)).run Tryz.prog ((W.alloc O).alloc (.cells c' 238)) = .ok () ((W.alloc O).alloc (.cells V 238)) := by
  have h := storeC_new (W.alloc O) c' V h' hV h1
  have e : (W.alloc O).heap.size = W.heap.size + 1 := by simp
  rw [e] at h
  exact h

/-- The numbers of a copy, twenty of them. -/
def pad20 (l : List Int) : List Int := l ++ noughts (20 - l.length)

theorem pad20_len (l : List Int) (h : l.length ≤ 20) : (pad20 l).length = 20 := by unfold pad20; rw [List.length_append, noughts_len]; omega

theorem noughts_numb (n : Nat) : Numb (noughts n) := fun x hx => by
  have := List.eq_of_mem_replicate hx
  omega

theorem pad20_numb {l : List Int} (h : Numb l) : Numb (pad20 l) := fun x hx => by
  rcases List.mem_append.1 hx with hx | hx
  · exact h x hx
  · exact noughts_numb _ x hx

theorem noughts_sum (n : Nat) : (noughts n).sum = 0 := by
  unfold noughts
  induction n with
  | zero => rfl
  | succ n ih => rw [List.replicate_succ, List.sum_cons, ih]; rfl

theorem pad20_sum (l : List Int) : (pad20 l).sum = l.sum := by unfold pad20; rw [List.sum_append, noughts_sum]; omega

set_option maxRecDepth 20000 in
set_option maxHeartbeats 1000000 in
theorem copyWith_calls (l : List Int) (h20 : l.length ≤ 20) (hn : Numb l) (c : Int) (hc : 0 ≤ c ∧ c ≤ 1000000001) (a : Value) (w : World) (ha : RowIn w a l) :
    Calls Tryz.prog 258 #[a, .int .i64 c] w fun e w' => e = .returned (.agg (nvc (1 + (c + l.sum) % 999983) (pad20 l) c)) ∧ Below w.heap.size w w' := by
  obtain ⟨p, cap, rfl, hcap, hp⟩ := ha
  have HP := hid hp
  have HCK := hid (fun W => checked_calls 0 c (pad20 l) (pad20_len l h20) (pad20_numb hn) hc W)
  rw [pad20_sum] at HCK
  have HSP := hid (splice_nvc 0 c l (l.length + 1) (by omega) (by omega) (by omega))
  have HFIT : Hid (1 + (ints l).length ≤ (Value.int .i64 0 :: (ints (noughts 20) ++ [Value.int .i64 c])).length) := hid (by simp [ints_len, noughts_len]; omega)
  have HMIN : Hid ((ints l).length = Nat.min l.length 20) := hid (by rw [ints_len]; exact (Nat.min_eq_left h20).symm)
  have hbuild := buildC_count c
  have hst := fun W O c' h' => storeC_new1 W O c' (nvc 0 (noughts 20) c) h' (nvc_size _ _ _ (noughts_len 20)) (nvc_one _ _ _)
  have s1 := nvc_size 0 c (pad20 l) (pad20_len l h20)
  have s2 := nvc_size (1 + (c + l.sum) % 999983) c (pad20 l) (pad20_len l h20)
  have HSRC : Hid (∀ W : World, Below w.heap.size w W → 0 < (ints l).length → ∃ ad, p = some ad ∧ ∀ j v, (ints l)[j]? = some v → W.cell? (ad.add j) = some v) := hid fun W hW hpos => by
    obtain ⟨g, o, rfl, hg, hcell⟩ := HP.out (fun h => by rw [h] at hpos; cases hpos)
    refine ⟨_, rfl, fun j v hv => ?_⟩
    have hj : j < l.length := by rw [← ints_len]; exact (List.getElem?_eq_some_iff.1 hv).1
    rw [Addr.add_mid, hW.cell (p := ⟨g, o + j, none⟩) hg, hcell j hj]
    rw [ints_at l j hj] at hv
    exact hv
  have hpad : l ++ noughts (20 - l.length) = pad20 l := rfl
  rw [hpad] at HSP
  clear hpad hp hn
  go_enter Tryz.func258, Tryz.ntmps258
  go_wp2_with (first | (refine wpList_copy_splice rfl (.tmp 9) (.tmp 10) 22 22 (by rfl) 2 Tryz.underlying22 (by kernel_rfl) (some ⟨w.heap.size + 1, 1, none⟩) p 20 20 l.length cap (by rfl) (by rfl) (w.heap.size + 1) 1 (Value.int .i64 0 :: (ints (noughts 20) ++ [Value.int .i64 c])) 238 (heap_alloc2_new w _ _) (ints l) HMIN.out (fun h0 => ⟨rfl, HSRC.out _ (((Below.refl _ _).alloc (Nat.le_refl _) _).alloc (by simp) _) h0⟩) HFIT.out (ints_one l) (w.heap.size + 1) _ (Below.refl _ _) (Nat.le_refl _) ?_; intro w4 hg4 hb4; have hl4 := loadC_row (nvc 0 (pad20 l) c) s1 (w.heap.size + 1) w4 (0, 0) (by rw [← HSP.out]; exact hg4.out); have hw4 := (hb4.block w.heap.size (Nat.lt_succ_self _)).trans (heap_alloc2_old w _ _); have hz4 := hb4.size; simp only [World.size_alloc] at hz4; have HW4 := hid hw4; clear hw4) | (go_at_call 221; refine (HCK.out _).mono ?_; rintro e w5 ⟨rfl, hb5⟩; have hst5 := storeC_over _ s2 (nvc_one _ _ _) w.heap.size w5 _ rfl ((hb5.block w.heap.size (by omega)).trans HW4.out)))
  have HG := hid ((hb5.block w.heap.size (by omega)).trans HW4.out)
  refine bodyPost_ret (v := .agg (nvc (1 + (c + l.sum) % 999983) (pad20 l) c)) (results_cell_row (p := 4) Tryz.results258 _ _ w.heap.size 238 _ (0, 0) _ rfl (setRow_heap _ _ _ _ _ _ HG.out) Tryz.underlying238 rfl (by rw [s2]; kernel_rfl)) rfl ⟨rfl, ?_⟩
  refine below_setRow ?_ (Nat.le_refl _) _
  exact ((((Below.refl _ _).alloc (Nat.le_refl _) _).alloc (by simp) _).trans (hb4.mono (Nat.le_succ _))).trans (hb5.mono (by omega))
end Go.Proofs.YtnkaabgjfdbdoaaGreatDoor

namespace Go.Proofs.YtnkaabgjfdbdoaaGreatDoor
open Go.RowKit
open Go.Lib (hid)

/-- The writes of a copy that begins at a place: the check struck, the numbers, the count, the check. -/
def tells (start m : Nat) (ns : List Int) (k c : Int) : List (Nat × Int) := (start, 0) :: ((List.range m).map (fun i => (start + 1 + i, ns.getD i 0)) ++ [(start + 1 + m, c), (start, k)])

theorem tells_len (start m : Nat) (ns : List Int) (k c : Int) : (tells start m ns k c).length = m + 3 := by simp [tells]

theorem tells_mid (start m : Nat) (ns : List Int) (k c : Int) (i : Nat) (h : i < m) : (tells start m ns k c)[i + 1]? = some (start + 1 + i, ns.getD i 0) := by
  unfold tells
  rw [List.getElem?_cons_succ, List.getElem?_append_left (by simpa using h)]
  simp [h]

theorem tells_cnt (start m : Nat) (ns : List Int) (k c : Int) : (tells start m ns k c)[m + 1]? = some (start + 1 + m, c) := by
  unfold tells
  rw [List.getElem?_cons_succ, List.getElem?_append_right (by simp)]
  simp

theorem tells_chk (start m : Nat) (ns : List Int) (k c : Int) : (tells start m ns k c)[m + 2]? = some (start, k) := by
  unfold tells
  rw [List.getElem?_cons_succ, List.getElem?_append_right (by simp)]
  simp

theorem nvc_at (k c : Int) (ns : List Int) (i : Nat) (h : i < ns.length) : (nvc k ns c)[1 + i]? = some (.int .i64 (ns.getD i 0)) := by
  have e : (nvc k ns c)[1 + i]? = (Value.int .i64 k :: (ints ns ++ [Value.int .i64 c]))[1 + i]? := by unfold nvc; simp
  rw [e, Nat.add_comm 1 i, List.getElem?_cons_succ, List.getElem?_append_left (by rw [ints_len]; exact h), ints_at ns i h]
  simp [List.getD, h]

/-- What a function that is told a write has to do. -/
def Puts (K : Nat) (ptr : List Value) (ws : List (Nat × Int)) (bx : Nat) (I : Nat → World → Prop) : Prop :=
  ∀ j n v W, ws[j]? = some (n, v) → I j W → Calls Tryz.prog K (#[.agg #[.int .i64 (n : Nat), .int .i64 v]] ++ ptr.toArray) W fun e w' => e = .returned (.tuple #[]) ∧ I (j + 1) w' ∧ w'.heap[bx]? = W.heap[bx]? ∧ W.heap.size ≤ w'.heap.size

set_option maxRecDepth 20000 in
set_option maxHeartbeats 1000000 in
theorem tell_writes (I : Nat → World → Prop) (k c : Int) (ns : List Int) (hn : ns.length = 20) (start m : Nat) (hs : start ≤ 22) (hm : m ≤ 20) (ptr : Value) (w : World) (hput : Puts 260 [ptr] (tells start m ns k c) w.heap.size I) (h0 : I 0 (w.alloc (.cells (nvc k ns c) 238))) :
    Calls Tryz.prog 259 #[.agg (nvc k ns c), .int .i64 start, .int .i64 m, .func (.func 260) #[] #[ptr]] w fun e w' => e = .returned (.tuple #[]) ∧ I (m + 3) w' := by
  have HP := hid hput
  have H0 := hid h0
  have hb0 : (w.alloc (.cells (nvc k ns c) 238)).heap[w.heap.size]? = some (.cells (nvc k ns c) 238) := heap_alloc_new _ _
  have HB0 := hid hb0
  clear hput h0 hb0
  have C0 := hid (fun W (h : I 0 W) => HP.out 0 start 0 W rfl h)
  have CI := hid (fun i (hi : i < m) W (h : I (i + 1) W) => HP.out (i + 1) _ _ W (tells_mid start m ns k c i hi) h)
  have CN := hid (fun W (h : I (m + 1) W) => HP.out (m + 1) _ _ W (tells_cnt start m ns k c) h)
  have CK := hid (fun W (h : I (m + 2) W) => HP.out (m + 2) _ _ W (tells_chk start m ns k c) h)
  have NL := hid (nvc_last k c ns hn)
  have NF := hid (nvc_first k c ns)
  have NA := hid (fun i (hi : i < m) => nvc_at k c ns i (by omega))
  go_enter Tryz.func259, Tryz.ntmps259
  go_wp2_with (go_at_call 260; refine (C0.out _ H0.out).mono ?_; rintro e w1 ⟨rfl, h1, hb1, hz1⟩)
  have hb1' := hb1.trans HB0.out
  have HB1 := hid hb1'
  have H1 := hid h1
  clear hb1 hb1' h1 hz1
  go_loopw [14] (fun iv wr => ∃ i : Nat, i ≤ m ∧ iv = .int .i64 i ∧ I (i + 1) wr ∧ wr.heap[w.heap.size]? = some (.cells (nvc k ns c) 238)) (fun iv _ => m - (RowKit.intOf iv).toNat)
  case atStart => exact ⟨0, Nat.zero_le _, rfl, H1.out, HB1.out⟩
  case round =>
    obtain ⟨i, hi, rfl, hI, hbl⟩ := hrel
    have HBL := hid hbl
    have HII := hid hI
    by_cases hlt : i < m
    · have hc1 : wr.cell? ⟨w.heap.size, 1 + i, none⟩ = some (.int .i64 (ns.getD i 0)) := by rw [cell_of_row wr _ (1 + i) _ _ _ hbl]; exact NA.out i hlt
      have CI2 := hid (CI.out i hlt wr hI)
      clear hbl hI
      generalize ns.getD i 0 = x at *
      have CAST := hid (show ((start + 1 + i : Nat) : Int) = (start : Int) + 1 + i by omega)
      rw [CAST.out] at CI2
      go_wp2_with (go_at_call 260; refine CI2.out.mono ?_; rintro e w5 ⟨rfl, h5, hb5, hz5⟩)
      have HB5 := hid (hb5.trans HBL.out)
      clear hb5
      go_roundw
      case rel => exact ⟨i + 1, by omega, by go_num, h5, HB5.out⟩
      case measure => simp [RowKit.intOf]; omega
    · have hie : i = m := by omega
      subst hie
      have hc1 : wr.cell? ⟨w.heap.size, 21, none⟩ = some (.int .i64 c) := by rw [cell_of_row wr _ 21 _ _ _ hbl]; exact NL.out
      have CN2 := hid (CN.out wr hI)
      have CAST := hid (show ((start + 1 + i : Nat) : Int) = (start : Int) + 1 + i by omega)
      rw [CAST.out] at CN2
      clear hbl hI
      go_wp2_with (first | (go_at_call_of 260 (Value.int .i64 c); refine CN2.out.mono ?_; rintro e w5 ⟨rfl, h5, hb5, hz5⟩; have hbl5 := hb5.trans HBL.out; have hc0 : w5.cell? ⟨w.heap.size, 0, none⟩ = some (.int .i64 k) := (by rw [cell_of_row w5 _ 0 _ _ _ hbl5]; exact NF.out); have H5 := hid h5; clear hb5 hbl5 h5) | (go_at_call_of 260 (Value.int .i64 k); refine (CK.out _ H5.out).mono ?_; rintro e w6 ⟨rfl, h6, _, _⟩))
      go_end0
      exact ⟨rfl, h6⟩
end Go.Proofs.YtnkaabgjfdbdoaaGreatDoor

namespace Go.Proofs.YtnkaabgjfdbdoaaGreatDoor
open Go.RowKit
open Go.Lib (hid)

theorem ints_set (l : List Int) (i : Nat) (v : Int) : (ints l).set i (.int .i64 v) = ints (l.set i v) := by simp [ints, List.map_set]

/-- Numbers with writes done. -/
def app (ws : List (Nat × Int)) (l : List Int) : List Int := ws.foldl (fun l x => l.set x.1 x.2) l

theorem app_len (ws : List (Nat × Int)) : ∀ l, (app ws l).length = l.length := by
  unfold app
  induction ws with
  | nil => intro l; rfl
  | cons x ws ih => intro l; rw [List.foldl_cons, ih, List.length_set]

theorem app_take (ws : List (Nat × Int)) (j : Nat) (n : Nat) (v : Int) (h : ws[j]? = some (n, v)) (l : List Int) : app (ws.take (j + 1)) l = (app (ws.take j) l).set n v := by
  obtain ⟨hj, e⟩ := List.getElem?_eq_some_iff.1 h
  unfold app
  rw [List.take_succ_eq_append_getElem hj, List.foldl_append, e]
  rfl

theorem tells_in (start m : Nat) (ns : List Int) (k c : Int) (N : Nat) (hN : start + m + 2 ≤ N) (x : Nat × Int) (h : x ∈ tells start m ns k c) : x.1 < N := by
  unfold tells at h
  simp only [List.mem_cons, List.mem_append, List.mem_map, List.mem_range, List.not_mem_nil, or_false] at h
  rcases h with rfl | ⟨i, hi, rfl⟩ | rfl | rfl
  · show start < N; omega
  · show start + 1 + i < N; omega
  · show start + 1 + m < N; omega
  · show start < N; omega

/-- What stands while a copy is told into words that the call has made. -/
def Told (w0 : World) (base g bw N : Nat) (ws : List (Nat × Int)) (l0 : List Int) (j : Nat) (W : World) : Prop :=
  W.ownsRow base 2 1 (.slice (some ⟨g, 0, none⟩) N N) N (ints (app (ws.take j) l0)) ∧ W.cell? ⟨bw, 0, none⟩ = some (.slice (some ⟨g, 0, none⟩) N N) ∧ Below base w0 W

end Go.Proofs.YtnkaabgjfdbdoaaGreatDoor

namespace Go.Proofs.YtnkaabgjfdbdoaaGreatDoor

theorem app_append (a b : List (Nat × Int)) (l : List Int) : app (a ++ b) l = app b (app a l) := by unfold app; rw [List.foldl_append]

theorem app_cons (n : Nat) (v : Int) (ws : List (Nat × Int)) (l : List Int) : app ((n, v) :: ws) l = app ws (l.set n v) := rfl

theorem app_range (s : Nat) (ns : List Int) : ∀ m (l : List Int), m ≤ ns.length → s + m ≤ l.length → app ((List.range m).map fun i => (s + i, ns.getD i 0)) l = l.take s ++ (ns.take m ++ l.drop (s + m)) := by
  intro m
  induction m with
  | zero => intro l _ _; simp [app]
  | succ m ih =>
    intro l hm hl
    rw [List.range_succ, List.map_append, app_append, ih l (by omega) (by omega), List.map_singleton, app_cons]
    show (l.take s ++ (ns.take m ++ l.drop (s + m))).set (s + m) (ns.getD m 0) = _
    have h1 : (l.take s).length = s := by rw [List.length_take]; omega
    have h2 : (ns.take m).length = m := by rw [List.length_take]; omega
    rw [List.set_append, if_neg (by omega), h1, List.set_append, if_neg (by omega), h2, show s + m - s - m = 0 by omega, List.drop_eq_getElem_cons (by omega), List.set_cons_zero, List.take_succ_eq_append_getElem (by omega), List.append_assoc, List.singleton_append, show s + (m + 1) = s + m + 1 by omega]
    simp [List.getD, show m < ns.length by omega]

/-- The words of a whole copy. -/
theorem app_tells (start m : Nat) (ns : List Int) (k c : Int) (l : List Int) (hm : m ≤ ns.length) (hl : start + m + 2 ≤ l.length) : app (tells start m ns k c) l = l.take start ++ (k :: (ns.take m ++ (c :: l.drop (start + m + 2)))) := by
  unfold tells
  rw [app_cons, app_append, app_range (start + 1) ns m _ hm (by rw [List.length_set]; omega), app_cons, app_cons]
  show ((_ : List Int).set (start + 1 + m) c).set start k = _
  have e1 : (l.set start 0).take (start + 1) = l.take start ++ [0] := by
    rw [List.take_succ_eq_append_getElem (by rw [List.length_set]; omega), List.take_set_of_le (Nat.le_refl _), List.getElem_set_self]
  have e2 : (l.set start 0).drop (start + 1 + m) = l[start + 1 + m] :: l.drop (start + m + 2) := by
    rw [List.drop_set_of_lt (by omega), List.drop_eq_getElem_cons (by omega), show start + 1 + m + 1 = start + m + 2 by omega]
  have h1 : (l.take start).length = start := by rw [List.length_take]; omega
  have h2 : (ns.take m).length = m := by rw [List.length_take]; omega
  rw [e1, e2, List.append_assoc, List.set_append, if_neg (by omega), h1, List.singleton_append, show start + 1 + m - start = m + 1 by omega, List.set_cons_succ, List.set_append, if_neg (by omega), h1, Nat.sub_self, List.set_cons_zero, List.set_append, if_neg (by omega), h2, Nat.sub_self, List.set_cons_zero]
end Go.Proofs.YtnkaabgjfdbdoaaGreatDoor

namespace Go.Proofs.YtnkaabgjfdbdoaaGreatDoor
open Go.RowKit
open Go.Lib (hid)

theorem intInfo : (Tryz.prog.info? 2).map (fun i => (i.zero, i.size, i.bytes)) = some (some (.int .i64 0), 1, 8) := by kernel_rfl

/-- The words of a new Nv. -/
def newWords (l : List Int) : List Int := (1 + (1 + l.sum) % 999983) :: (l ++ (1 :: noughts (l.length + 2)))

theorem newWords_len (l : List Int) : (newWords l).length = 2 * (l.length + 2) := by simp [newWords, noughts_len]; omega

theorem newWords_app (l : List Int) (h : l.length ≤ 20) : app (tells 0 l.length (pad20 l) (1 + (1 + l.sum) % 999983) 1) (noughts (2 * (l.length + 2))) = newWords l := by
  rw [app_tells 0 l.length (pad20 l) _ _ _ (by rw [pad20_len l h]; exact h) (by rw [noughts_len]; omega)]
  have e1 : (pad20 l).take l.length = l := by unfold pad20; exact List.take_left
  have e2 : (noughts (2 * (l.length + 2))).drop (0 + l.length + 2) = noughts (l.length + 2) := by unfold noughts; rw [List.drop_replicate]; congr 1; omega
  rw [e1, e2, List.take_zero, List.nil_append]
  rfl

end Go.Proofs.YtnkaabgjfdbdoaaGreatDoor
