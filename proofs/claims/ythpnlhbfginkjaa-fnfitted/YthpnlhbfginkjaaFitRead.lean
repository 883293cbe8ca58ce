/- The readings that are known, read by the program. -/
import Derived.Test.YthpnlhbfginkjaaFitSpec
import Derived.Test.YthpnlhbfginkjaaBlendImpl
namespace Go.Proofs.Ythpnlhbfginkjaa
open Go.RowKit
open Go.Lib (hid)

attribute [local go_sem] run_fadd run_fsub run_fmul run_fquo run_store_float fw_cell2

/-- What stands of a box of two slices. -/
def RBox (W : World) (b : Nat) (x y : Value) : Prop := W.heap[b]? = some (.cells #[x, y] 72)

theorem RBox.facts {W : World} {b : Nat} {x y : Value} (h : RBox W b x y) : W.cell? ⟨b, 0, none⟩ = some x ∧ W.cell? ⟨b, 1, none⟩ = some y ∧ W.frozen? ⟨b, 0, none⟩ = false ∧ W.frozen? ⟨b, 1, none⟩ = false := by
  unfold RBox at h
  exact ⟨(cell_of_row _ _ 0 _ _ _ h).trans rfl, (cell_of_row _ _ 1 _ _ _ h).trans rfl, by simp [World.frozen?, h], by simp [World.frozen?, h]⟩

theorem RBox.alloc {W : World} {b : Nat} {x y : Value} (h : RBox W b x y) (c : Obj) : RBox (W.alloc c) b x y := by
  have hb : b < W.heap.size := (Array.getElem?_eq_some_iff.1 h).1
  exact (heap_alloc_old _ _ hb).trans h

theorem RBox.grown {W W2 : World} {b : Nat} {x y : Value} {row : Option Nat} (h : RBox W b x y) (hg : W.grownBy W2 row) (hne : ∀ k, row = some k → b < k) : RBox W2 b x y := by
  have hb : b < W.heap.size := (Array.getElem?_eq_some_iff.1 h).1
  exact (hg.block b hb (fun e => absurd (hne _ e.symm) (Nat.lt_irrefl _))).trans h

theorem RBox.put {W : World} {b : Nat} {x y : Value} (h : RBox W b x y) (u v : Value) : RBox ((W.setCell ⟨b, 0, none⟩ u).setCell ⟨b, 1, none⟩ v) b u v :=
  (heap_setCell_same _ _ _ _ _ _ (heap_setCell_same _ _ _ _ _ _ h)).trans rfl

theorem RBox.other {W : World} {b b' : Nat} {x y : Value} (h : RBox W b x y) (hne : b ≠ b') (u v : Value) : RBox ((W.setCell ⟨b', 0, none⟩ u).setCell ⟨b', 1, none⟩ v) b x y :=
  (heap_setCell_other _ _ _ _ hne).trans ((heap_setCell_other _ _ _ _ hne).trans h)

theorem Rows2.boxed {base : Nat} {va vb : Value} {la lb : List Nat} {n m : Nat} {wr : World} (h : Rows2 base va vb la lb n m wr) (b : Nat) (hb : b < base) (u v : Value) : Rows2 base va vb la lb n m ((wr.setCell ⟨b, 0, none⟩ u).setCell ⟨b, 1, none⟩ v) :=
  ⟨ownsRow_setCell_below (ownsRow_setCell_below h.oa (a := ⟨b, 0, none⟩) hb _) (a := ⟨b, 1, none⟩) hb _, ownsRow_setCell_below (ownsRow_setCell_below h.ob (a := ⟨b, 0, none⟩) hb _) (a := ⟨b, 1, none⟩) hb _, h.apart⟩
theorem slice_own {w : World} {base size n : Nat} {e : TypeId} {v : Value} {xs : List Value} (h : w.ownsRow base e size v n xs) : ∃ p c, v = .slice p n c := by
  rcases h.2 with ⟨hv, hz⟩ | ⟨g, cap, cur, e1, _⟩
  · exact ⟨none, 0, by rw [hv, hz]⟩
  · exact ⟨_, _, e1⟩

theorem take_at {P : Program} {md : Region.Mode} {ops : Array Oper} {Q : Exit → Act → World → Prop} {S : World → Prop} {i : Nat} {oi : Oper} (d : Tmp) {v : Value} {fuel : Nat} {listed : Array Bool} {a : Act} {w : World} (hi : ops[i]? = some oi) (hd : oi.dst = some d)
    (hs : Region.noSelect ops = true) (hf : Region.free md ops listed i = true) (hr : (Region.ready md ops listed).contains i = true)
    (hQ : ∀ c a w, Q (.panic c) (a.put (some d) v) w → Q (.panic c) a w) (hy : YieldsIf P ops S oi v a) (hS : S w)
    (h : wpAnyH P md ops Q S fuel (listed.setIfInBounds i true) (a.put (some d) v) w) : wpAnyH P md ops Q S (fuel + 1) listed a w := by
  rw [← hd] at hQ h
  exact wpAnyH_take hi hs hf hr hQ hy hS h

abbrev One (w : World) (p : Addr) (x : Value) (w' : World) : Prop := w'.cell? p = some x ∧ Below w.heap.size w w'

theorem One.drew {w wa : World} {p : Addr} {x : Value} (h : One w p x wa) : One w p x wa.drew := ⟨h.1, h.2.drew⟩
theorem One.allocB {w wa : World} {p : Addr} {x : Value} (h : One w p x wa) (c : Obj) : One w p x (wa.alloc c) := ⟨lit_old h.1, h.2.alloc h.2.size _⟩
theorem One.grown {w wa wb : World} {p : Addr} {x : Value} {row : Option Nat} (h : One w p x wa) (hg : wa.grownBy wb row) (hp : p.block < w.heap.size) (hw : ∀ k, row = some k → w.heap.size ≤ k) : One w p x wb :=
  ⟨hg.cell h.1 (fun e => absurd (hw _ e.symm) (Nat.not_le.2 hp)), h.2.grown hg h.2.size hw⟩
theorem One.set {w wa : World} {p : Addr} {x : Value} (h : One w p x wa) (hp : p.block < w.heap.size) {b : Nat} (hb : w.heap.size ≤ b) (o : Nat) (u : Value) : One w p x (wa.setCell ⟨b, o, none⟩ u) :=
  ⟨(World.cell?_setCell_other wa _ _ _ (fun e => by have e2 := congrArg Addr.block e; have e3 : b = p.block := e2; omega)).trans h.1, h.2.setCell (p := ⟨b, o, none⟩) hb _⟩

/-- What is read. -/
def ReadPostF (zs : List (Int × Nat)) (w : World) (e : Ending) (w' : World) : Prop :=
  ∃ va vb, e = .returned (.tuple #[.agg #[va, vb], .bool (okT zs)]) ∧ (okT zs = true → RowFl w' va ((rds zs).map Prod.fst) ∧ RowFl w' vb ((rds zs).map Prod.snd) ∧ ∃ p c, va = .slice p (rds zs).length c) ∧ (okT zs = false → va = .slice none 0 0 ∧ vb = .slice none 0 0) ∧ Below w.heap.size w w'

theorem read_post {zs : List (Int × Nat)} {w w' : World} {e : Ending} (va vb : Value) (h1 : e = .returned (.tuple #[.agg #[va, vb], .bool (okT zs)])) (h2 : okT zs = true → RowFl w' va ((rds zs).map Prod.fst) ∧ RowFl w' vb ((rds zs).map Prod.snd) ∧ ∃ p c, va = .slice p (rds zs).length c) (h4 : okT zs = false → va = .slice none 0 0 ∧ vb = .slice none 0 0) (h3 : Below w.heap.size w w') : ReadPostF zs w e w' := ⟨va, vb, h1, h2, h4, h3⟩

set_option maxRecDepth 20000 in
set_option maxHeartbeats 4000000 in
theorem read_far (p q : Option Addr) (n m c d : Nat) (hno : 100 < n ∨ n ≤ 100 ∧ n ≠ m) (w : World) :
    Calls Try.prog 43 #[.slice p n c, .slice q m d] w fun e w' => e = .returned (.tuple #[.agg #[.slice none 0 0, .slice none 0 0], .bool false]) ∧ Below w.heap.size w w' := by
  rcases hno with h | ⟨h, hne⟩
  · have h2 : (n : Int) > 100 := by omega
    go_enter Try.func43, Try.ntmps43
    go_wp2
    refine bodyPost_ret (v := .tuple #[.agg #[.slice none 0 0, .slice none 0 0], .bool false]) (by simp [results, Try.results43, go_sem]) rfl ⟨rfl, ?_⟩
    repeat (first | exact Below.refl _ _ | exact Below.refl _ _ | (refine Below.setCell ?_ (by first | (simp; done) | (simp; omega)) _) | (refine Below.alloc ?_ (by first | (simp; done) | (simp; omega)) _))
  · have h2 : ¬ (n : Int) > 100 := by omega
    have h3 : ((m : Int) != (n : Int)) = true := by simp; omega
    go_enter Try.func43, Try.ntmps43
    go_wp2
    refine bodyPost_ret (v := .tuple #[.agg #[.slice none 0 0, .slice none 0 0], .bool false]) (by simp [results, Try.results43, go_sem]) rfl ⟨rfl, ?_⟩
    repeat (first | exact Below.refl _ _ | exact Below.refl _ _ | (refine Below.setCell ?_ (by first | (simp; done) | (simp; omega)) _) | (refine Below.alloc ?_ (by first | (simp; done) | (simp; omega)) _))

set_option maxRecDepth 20000 in
set_option maxHeartbeats 8000000 in
theorem read_calls (zs : List (Int × Nat)) (hn : zs.length ≤ 100) (hs : ∀ z ∈ zs, z.2 < 18446744073709551616) (a b : Value) (w : World) (ha : RowIn w a (zs.map Prod.fst)) (hb : RowFl w b (zs.map Prod.snd)) :
    Calls Try.prog 43 #[a, b] w (ReadPostF zs w) := by
  obtain ⟨p, c, rfl, hp⟩ := row_tk ha
  obtain ⟨q, d, rfl, hq⟩ := row_of hb
  have HP := hid hp
  have HQ := hid hq
  have HSM := hid hs
  clear hp hq ha hb hs
  obtain ⟨W1, hW1⟩ : ∃ W1, W1 = (w.alloc (.cells #[.slice none 0 0, .slice none 0 0] 72)).alloc (.cells #[.slice none 0 0, .slice none 0 0] 72) := ⟨_, rfl⟩
  have HW1 := hid hW1
  have HX0 : Hid (RBox W1 w.heap.size (.slice none 0 0) (.slice none 0 0)) := hid (by rw [hW1]; exact RBox.alloc (heap_alloc_new w _) _)
  have HX1 : Hid (RBox W1 (w.heap.size + 1) (.slice none 0 0) (.slice none 0 0)) := hid (by rw [hW1]; have h := heap_alloc_new (w.alloc (.cells #[.slice none 0 0, .slice none 0 0] 72)) (.cells #[.slice none 0 0, .slice none 0 0] 72); rw [show (w.alloc (.cells #[.slice none 0 0, .slice none 0 0] 72)).heap.size = w.heap.size + 1 by simp] at h; exact h)
  have HB1 : Hid (Below w.heap.size w W1) := hid (by rw [hW1]; exact ((Below.refl _ _).alloc (Nat.le_refl _) _).alloc (by simp) _)
  have hzb : w.heap.size + 1 < W1.heap.size := by rw [hW1]; simp
  have hzw : w.heap.size ≤ W1.heap.size := by omega
  clear hW1
  have hne0 : ((zs.length : Int) != (zs.length : Int)) = false := by simp
  go_enter Try.func43, Try.ntmps43
  go_wp2
  go_loopw [22] (fun iv wr => ∃ (i : Nat) (ks : List (Nat × Nat)) (va vb : Value), i ≤ zs.length ∧ iv = .int .i64 ((i : Nat) : Int) ∧ Hid (rds (zs.take i) = ks) ∧ ks.length ≤ i ∧ Hid (okT (zs.take i) = true) ∧ Hid (Rows2 W1.heap.size va vb (ks.map Prod.fst) (ks.map Prod.snd) ks.length ks.length wr) ∧ Hid (RBox wr w.heap.size (.slice none 0 0) (.slice none 0 0)) ∧ Hid (RBox wr (w.heap.size + 1) va vb) ∧ Hid (Below w.heap.size w wr) ∧ W1.heap.size ≤ wr.heap.size) (fun iv _ => zs.length - (RowKit.intOf iv).toNat)
  case atStart => exact ⟨0, [], .slice none 0 0, .slice none 0 0, Nat.zero_le _, rfl, hid rfl, Nat.le_refl _, hid rfl, hid ⟨World.ownsRow_nil _ _ _ _, World.ownsRow_nil _ _ _ _, fun j k h => by cases h⟩, hid (by have := HX0.out; rw [HW1.out] at this; exact this), hid (by have := HX1.out; rw [HW1.out] at this; exact this), hid (by have := HB1.out; rw [HW1.out] at this; exact this), by rw [HW1.out]; exact Nat.le_refl _⟩
  case round =>
    obtain ⟨i, ks, va, vb, hi, rfl, HK, hks, HT, HR, HX, HY, HB, hz1⟩ := hrel
    obtain ⟨k0, k1, f0, f1⟩ := HX.out.facts
    by_cases hlt : i < zs.length
    · have hne : zs ≠ [] := fun h => by rw [h] at hlt; cases hlt
      obtain ⟨g, o, rfl, hg, hc⟩ := HP.out hne
      obtain ⟨g2, o2, rfl, hg2, hc2⟩ := HQ.out hne
      have c0 : wr.cell? ⟨g, o + i, none⟩ = some (.int .i64 zs[i].1) := (HB.out.cell (p := ⟨g, o + i, none⟩) hg).trans (hc i hlt)
      have c1 : wr.cell? ⟨g2, o2 + i, none⟩ = some (.float .f64 zs[i].2) := (HB.out.cell (p := ⟨g2, o2 + i, none⟩) hg2).trans (hc2 i hlt)
      have HN := hid (rds_next zs i hlt)
      have HTN := hid (okT_next zs i hlt)
      have HTO := hid (okT_no zs i hlt)
      have hy := HSM.out zs[i] (List.getElem_mem hlt)
      have CT := hid (fun W => tick_calls zs[i].1 W)
      have HTK : Hid (tkB zs[i].1 = decide (0 ≤ zs[i].1 ∧ zs[i].1 ≤ 1000000)) := hid rfl
      clear hc hc2
      generalize zs[i].1 = t at *
      generalize zs[i].2 = y at *
      have CK := hid (fun W => known_impl y hy W)
      have b1 : (0 : Int) ≤ (i : Int) := by omega
      have b2 : (i : Int) < (zs.length : Int) := by omega
      cases ht : decide (0 ≤ t ∧ t ≤ 1000000) with
      | false =>
        have HNO : Hid (okT zs = false) := hid (HTO.out (by rw [HTK.out]; exact ht))
        rw [ht] at CT
        go_wp2_with (go_at_call 57; refine (CT.out _).mono ?_; rintro e wq ⟨rfl, eq⟩; rw [eq]; clear eq wq)
        refine bodyPost_ret (v := .tuple #[.agg #[.slice none 0 0, .slice none 0 0], .bool false]) (by simp [results, Try.results43, go_sem, k0, k1]) rfl (read_post (.slice none 0 0) (.slice none 0 0) (by rw [HNO.out]) (fun h => by rw [HNO.out] at h; cases h) (fun _ => ⟨rfl, rfl⟩) ?_)
        repeat (first | exact Below.refl _ _ | exact HB.out | (refine Below.setCell ?_ (by first | (simp; done) | (simp; omega)) _) | (refine Below.alloc ?_ (by first | (simp; done) | (simp; omega)) _))
      | true =>
        rw [ht] at CT
        have HT2 : Hid (okT (zs.take (i + 1)) = true) := hid (by rw [HTN.out, HT.out, HTK.out, ht]; rfl)
        cases hf : finB y with
        | false =>
          rw [hf] at CK
          have HN2 : Hid (rds (zs.take (i + 1)) = ks) := hid (by rw [HN.out, hf, if_neg (by simp), HK.out])
          go_wp2_with (first | (go_at_call 57; refine (CT.out _).mono ?_; rintro e wq ⟨rfl, eq⟩; rw [eq]; clear eq wq) | (go_at_call 37; refine (CK.out _).mono ?_; rintro e wq ⟨rfl, eq⟩; rw [eq]; clear eq wq))
          go_wp2
          go_roundw
          case rel => exact ⟨i + 1, ks, va, vb, by omega, by go_num, HN2, by omega, HT2, HR, HX, HY, HB, hz1⟩
          case measure => simp [RowKit.intOf]; omega
        | true =>
          rw [hf] at CK
          have HN2 : Hid (rds (zs.take (i + 1)) = ks ++ [(floatOfInt .f64 t, y)]) := hid (by rw [HN.out, hf, if_pos rfl, HK.out])
          have hk100 : ks.length ≤ 100 := by omega
          have HLT : Hid (∀ k, va.ownBlock = some k → W1.heap.size ≤ k ∧ k < wr.heap.size) := hid (fun k hk => HR.out.oa.lt k hk)
          have HLU : Hid (∀ k, vb.ownBlock = some k → W1.heap.size ≤ k ∧ k < wr.heap.size) := hid (fun k hk => HR.out.ob.lt k hk)
          have HLT2 : Hid (∀ k, va.ownBlock = some k → k < wr.heap.size) := hid (fun k hk => (HLT.out k hk).2)
          have HLU2 : Hid (∀ k, vb.ownBlock = some k → k < wr.heap.size) := hid (fun k hk => (HLU.out k hk).2)
          have HS0 : Hid (One w ⟨g2, o2 + i, none⟩ (.float .f64 y) wr) := hid ⟨c1, HB.out⟩
          have HRW : Hid (Rows2 W1.heap.size va vb (ks.map Prod.fst) (ks.map Prod.snd) ks.length ks.length wr.drew) := hid (HR.out.below (Below.refl _ _).drew)
          have HBW : Hid (RBox wr.drew (w.heap.size + 1) va vb) := hid HY.out
          obtain ⟨j0, j1, _, _⟩ := HY.out.facts
          have j2 := fun c => (RBox.alloc HBW.out c).facts.1
          have j3 := fun c => (RBox.alloc HBW.out c).facts.2.1
          have j4 := fun c c' => (RBox.alloc (RBox.alloc HBW.out c) c').facts.1
          have j5 := fun c c' => (RBox.alloc (RBox.alloc HBW.out c) c').facts.2.1
          have j6 := fun c => (RBox.alloc HY.out c).facts.1
          have j7 := fun c => (RBox.alloc HY.out c).facts.2.1
          have j8 := fun c c' => (RBox.alloc (RBox.alloc HY.out c) c').facts.1
          have j9 := fun c c' => (RBox.alloc (RBox.alloc HY.out c) c').facts.2.1
          have HCW : Hid (RBox wr.drew w.heap.size (.slice none 0 0) (.slice none 0 0)) := hid HX.out
          go_wp2_with (first | (go_at_call 57; refine (CT.out _).mono ?_; rintro e wq ⟨rfl, eq⟩; rw [eq]; clear eq wq) | (go_at_call 37; refine (CK.out _).mono ?_; rintro e wq ⟨rfl, eq⟩; rw [eq]; clear eq wq))
          go_wp2
          refine wp_region_held_drew (S := fun w' => w'.cell? ⟨g2, o2 + i, none⟩ = some (.float .f64 y) ∧ Below w.heap.size w w') (by kernel_rfl) (One.drew HS0.out) (fun hHeld => ?_)
          refine take_at (i := 0) 36 (v := ?_) rfl rfl (by kernel_rfl) (by kernel_rfl) (by kernel_rfl) (fun _ _ _ h => h) (Or.inl ⟨by rfl, ?_⟩) (by assumption) ?_
          case refine_2 => ((intro w hSw); (try dsimp only at hSw); go_simp; (try with_reducible rfl))
          try simp only [Act.put, List.setIfInBounds_toArray, List.set_cons_zero, List.set_cons_succ]
          refine take_at (i := 2) 38 (v := ?_) rfl rfl (by kernel_rfl) (by kernel_rfl) (by kernel_rfl) (fun _ _ _ h => h) (Or.inl ⟨by rfl, ?_⟩) (by assumption) ?_
          case refine_2 => ((intro w hSw); (try dsimp only at hSw); go_simp; (try with_reducible rfl))
          try simp only [Act.put, List.setIfInBounds_toArray, List.set_cons_zero, List.set_cons_succ]
          refine take_at (i := 3) 39 (v := ?_) rfl rfl (by kernel_rfl) (by kernel_rfl) (by kernel_rfl) (fun _ _ _ h => h) (Or.inl ⟨by rfl, ?_⟩) (by assumption) ?_
          case refine_2 => ((intro w hSw); (try dsimp only at hSw); go_simp; (try with_reducible rfl))
          try simp only [Act.put, List.setIfInBounds_toArray, List.set_cons_zero, List.set_cons_succ]
          refine take_at (i := 6) 42 (v := ?_) rfl rfl (by kernel_rfl) (by kernel_rfl) (by kernel_rfl) (fun _ _ _ h => h) (Or.inl ⟨by rfl, ?_⟩) (by assumption) ?_
          case refine_2 => ((intro w hSw); (try dsimp only at hSw); go_simp; (try with_reducible rfl))
          try simp only [Act.put, List.setIfInBounds_toArray, List.set_cons_zero, List.set_cons_succ]
          refine take_at (i := 8) 44 (v := ?_) rfl rfl (by kernel_rfl) (by kernel_rfl) (by kernel_rfl) (fun _ _ _ h => h) (Or.inl ⟨by rfl, ?_⟩) (by assumption) ?_
          case refine_2 => ((intro w hSw); (try dsimp only at hSw); go_simp; (try with_reducible rfl))
          try simp only [Act.put, List.setIfInBounds_toArray, List.set_cons_zero, List.set_cons_succ]
          refine take_at (i := 9) 45 (v := ?_) rfl rfl (by kernel_rfl) (by kernel_rfl) (by kernel_rfl) (fun _ _ _ h => h) (Or.inl ⟨by rfl, ?_⟩) (by assumption) ?_
          case refine_2 => ((intro w hSw); (try dsimp only at hSw); go_simp; (try with_reducible rfl))
          try simp only [Act.put, List.setIfInBounds_toArray, List.set_cons_zero, List.set_cons_succ]
          refine take_at (i := 10) 46 (v := ?_) rfl rfl (by kernel_rfl) (by kernel_rfl) (by kernel_rfl) (fun _ _ _ h => h) (Or.inl ⟨by rfl, ?_⟩) (by assumption) ?_
          case refine_2 => ((intro w hSw); (try dsimp only at hSw); go_simp; (try with_reducible rfl))
          try simp only [Act.put, List.setIfInBounds_toArray, List.set_cons_zero, List.set_cons_succ]
          refine take_at (i := 11) 47 (v := ?_) rfl rfl (by kernel_rfl) (by kernel_rfl) (by kernel_rfl) (fun _ _ _ h => h) (Or.inl ⟨by rfl, ?_⟩) (by assumption) ?_
          case refine_2 => ((intro w hSw); (try dsimp only at hSw); go_simp; (try with_reducible rfl))
          try simp only [Act.put, List.setIfInBounds_toArray, List.set_cons_zero, List.set_cons_succ]
          refine wpAnyH_ready (rs := [1, 4, 7, 12]) (by kernel_rfl) (by simp) ?_
          refine AllReadyH.cons rfl (fun K hK => ?_) (AllReadyH.cons rfl (fun K hK => ?_) (AllReadyH.cons rfl (fun K hK => ?_) (AllReadyH.cons rfl (fun K hK => ?_) AllReadyH.nil)))
          · go_simp
            refine hK.out _ _ hHeld (fun hHeld => ?_)
            clear hK K
            try simp only [Act.put, List.setIfInBounds_toArray, List.set_cons_zero, List.set_cons_succ]
            refine wpAnyH_ready (rs := [4, 7, 12]) (by kernel_rfl) (by simp) ?_
            refine AllReadyH.cons rfl (fun K hK => ?_) (AllReadyH.cons rfl (fun K hK => ?_) (AllReadyH.cons rfl (fun K hK => ?_) AllReadyH.nil))
            · go_simp
              refine hK.out _ _ (One.allocB hHeld _) (fun hHeld => ?_)
              clear hK K
              try simp only [Act.put, List.setIfInBounds_toArray, List.set_cons_zero, List.set_cons_succ]
              refine wpAnyH_ready (rs := [5, 7, 12]) (by kernel_rfl) (by simp) ?_
              refine AllReadyH.cons rfl (fun K hK => ?_) (AllReadyH.cons rfl (fun K hK => ?_) (AllReadyH.cons rfl (fun K hK => ?_) AllReadyH.nil))
              · refine step_append_fl rfl (.tmp 37) (.tmp 40) (by rfl) W1.heap.size va ks.length (fls (ks.map Prod.fst)) (by rfl) (Rows2.alloc HRW.out _).oa _ _ (floatOfInt .f64 t) (by rfl) (lit_at _ _ _ _ (by first | rfl | (simp; done))) (by omega) (by first | omega | (simp; omega)) ?_
                intro v7 w7 ho hg hv
                obtain ⟨p7, c7, rfl⟩ := slice_own ho
                have hS7 := One.grown hHeld hg hg2 (fun k hk => Nat.le_trans hzw (HLT.out k hk).1)
                have hz7 : wr.heap.size ≤ w7.heap.size := Nat.le_trans (by first | omega | (simp; done) | (simp; omega)) hg.size
                have HBX := hid (RBox.grown (RBox.alloc HBW.out _) hg (fun k hk => Nat.lt_of_lt_of_le hzb (HLT.out k hk).1))
                have HCX := hid (RBox.grown (RBox.alloc HCW.out _) hg (fun k hk => Nat.lt_of_lt_of_le (Nat.lt_of_succ_lt hzb) (HLT.out k hk).1))
                have HG := hid hg
                have HGB := HLT2
                have HRX := hid (Rows2.first (Rows2.alloc HRW.out _) ho hg hv)
                clear ho hg hv
                obtain ⟨m0, m1, _, _⟩ := HBX.out.facts
                have m2 := fun c => (RBox.alloc HBX.out c).facts.1
                have m3 := fun c => (RBox.alloc HBX.out c).facts.2.1
                refine hK.out _ _ hS7 (fun hHeld => ?_)
                clear hK K
                refine wpAnyH_ready (rs := [7, 12]) (by kernel_rfl) (by simp) ?_
                refine AllReadyH.cons rfl (fun K hK => ?_) (AllReadyH.cons rfl (fun K hK => ?_) AllReadyH.nil)
                · go_simp
                  refine hK.out _ _ hHeld (fun hHeld => ?_)
                  clear hK K
                  try simp only [Act.put, List.setIfInBounds_toArray, List.set_cons_zero, List.set_cons_succ]
                  refine take_at (i := 14) 50 (v := ?_) rfl rfl (by kernel_rfl) (by kernel_rfl) (by kernel_rfl) (fun _ _ _ h => h) (Or.inl ⟨by rfl, ?_⟩) (by assumption) ?_
                  case refine_2 => ((intro w hSw); (try dsimp only at hSw); go_simp; (try with_reducible rfl))
                  try simp only [Act.put, List.setIfInBounds_toArray, List.set_cons_zero, List.set_cons_succ]
                  refine wpAnyH_ready (rs := [12]) (by kernel_rfl) (by simp) ?_
                  refine AllReadyH.cons rfl (fun K hK => ?_) AllReadyH.nil
                  go_simp
                  refine hK.out _ _ (One.allocB hHeld _) (fun hHeld => ?_)
                  clear hK K
                  try simp only [Act.put, List.setIfInBounds_toArray, List.set_cons_zero, List.set_cons_succ]
                  refine wpAnyH_ready (rs := [13]) (by kernel_rfl) (by simp) ?_
                  refine AllReadyH.cons rfl (fun K hK => ?_) AllReadyH.nil
                  refine step_append_fl rfl (.tmp 43) (.tmp 48) (by rfl) W1.heap.size vb ks.length (fls (ks.map Prod.snd)) (by rfl) (Rows2.alloc HRX.out _).ob _ _ y (by rfl) (lit_at _ _ _ _ (by first | rfl | (simp; done))) (by omega) (by first | omega | (simp; omega)) ?_
                  intro v8 w8 ho hg hv
                  obtain ⟨p8, c8, rfl⟩ := slice_own ho
                  have hS7 := One.grown hHeld hg hg2 (fun k hk => Nat.le_trans hzw (HLU.out k hk).1)
                  have hz7 : wr.heap.size ≤ w8.heap.size := Nat.le_trans (by first | omega | (simp; done) | (simp; omega)) hg.size
                  have HBX := hid (RBox.grown (RBox.alloc HBX.out _) hg (fun k hk => Nat.lt_of_lt_of_le hzb (HLU.out k hk).1))
                  have HCX := hid (RBox.grown (RBox.alloc HCX.out _) hg (fun k hk => Nat.lt_of_lt_of_le (Nat.lt_of_succ_lt hzb) (HLU.out k hk).1))
                  have HG := hid hg
                  have HGB := HLU2
                  have HRX := hid (Rows2.second (Rows2.alloc HRX.out _) ho hg hv)
                  clear ho hg hv
                  obtain ⟨n0, n1, n2, n3⟩ := HBX.out.facts
                  refine hK.out _ _ hS7 (fun hHeld => ?_)
                  clear hK K
                  refine wpAnyH_ready (rs := [15]) (by kernel_rfl) (by simp) ?_
                  refine AllReadyH.cons rfl (fun K hK => ?_) AllReadyH.nil
                  go_simp
                  refine hK.out _ _ (One.set hHeld hg2 (by omega) _ _) (fun hHeld => ?_)
                  clear hK K
                  try simp only [Act.put]
                  refine take_at (i := 16) 51 (v := ?_) rfl rfl (by kernel_rfl) (by kernel_rfl) (by kernel_rfl) (fun _ _ _ h => h) (Or.inl ⟨by rfl, ?_⟩) (by assumption) ?_
                  case refine_2 => ((intro w hSw); (try dsimp only at hSw); go_simp; (try with_reducible rfl))
                  try simp only [Act.put, List.setIfInBounds_toArray, List.set_cons_zero, List.set_cons_succ]
                  refine wpAnyH_ready (rs := [17]) (by kernel_rfl) (by simp) ?_
                  refine AllReadyH.cons rfl (fun K hK => ?_) AllReadyH.nil
                  go_simp
                  refine hK.out _ _ (One.set hHeld hg2 (by omega) _ _) (fun hHeld => ?_)
                  clear hK K
                  try simp only [Act.put]
                  refine wpAnyH_done (by kernel_rfl) ?_ _
                  go_wp2
                  go_roundw
                  case rel => exact ⟨i + 1, ks ++ [(floatOfInt .f64 t, y)], _, _, by omega, by go_num, HN2, by rw [List.length_append]; simp; omega, HT2, hid (by rw [List.length_append, List.map_append, List.map_append]; exact HRX.out.boxed (w.heap.size + 1) hzb _ _), hid (HCX.out.other (by omega) _ _), hid (HBX.out.put _ _), hid hHeld.2, by simp; omega⟩
                  case measure => simp [RowKit.intOf]; omega
                · go_simp
                  refine hK.out _ _ (One.allocB hHeld _) (fun hHeld => ?_)
                  clear hK K
                  try simp only [Act.put, List.setIfInBounds_toArray, List.set_cons_zero, List.set_cons_succ]
                  refine wpAnyH_ready (rs := [7]) (by kernel_rfl) (by simp) ?_
                  refine AllReadyH.cons rfl (fun K hK => ?_) AllReadyH.nil
                  go_simp
                  refine hK.out _ _ hHeld (fun hHeld => ?_)
                  clear hK K
                  try simp only [Act.put, List.setIfInBounds_toArray, List.set_cons_zero, List.set_cons_succ]
                  refine take_at (i := 14) 50 (v := ?_) rfl rfl (by kernel_rfl) (by kernel_rfl) (by kernel_rfl) (fun _ _ _ h => h) (Or.inl ⟨by rfl, ?_⟩) (by assumption) ?_
                  case refine_2 => ((intro w hSw); (try dsimp only at hSw); go_simp; (try with_reducible rfl))
                  try simp only [Act.put, List.setIfInBounds_toArray, List.set_cons_zero, List.set_cons_succ]
                  refine wpAnyH_ready (rs := [13]) (by kernel_rfl) (by simp) ?_
                  refine AllReadyH.cons rfl (fun K hK => ?_) AllReadyH.nil
                  refine step_append_fl rfl (.tmp 43) (.tmp 48) (by rfl) W1.heap.size vb ks.length (fls (ks.map Prod.snd)) (by rfl) (Rows2.alloc HRX.out _).ob _ _ y (by rfl) (lit_at _ _ _ _ (by first | rfl | (simp; done))) (by omega) (by first | omega | (simp; omega)) ?_
                  intro v8 w8 ho hg hv
                  obtain ⟨p8, c8, rfl⟩ := slice_own ho
                  have hS7 := One.grown hHeld hg hg2 (fun k hk => Nat.le_trans hzw (HLU.out k hk).1)
                  have hz7 : wr.heap.size ≤ w8.heap.size := Nat.le_trans (by first | omega | (simp; done) | (simp; omega)) hg.size
                  have HBX := hid (RBox.grown (RBox.alloc HBX.out _) hg (fun k hk => Nat.lt_of_lt_of_le hzb (HLU.out k hk).1))
                  have HCX := hid (RBox.grown (RBox.alloc HCX.out _) hg (fun k hk => Nat.lt_of_lt_of_le (Nat.lt_of_succ_lt hzb) (HLU.out k hk).1))
                  have HG := hid hg
                  have HGB := HLU2
                  have HRX := hid (Rows2.second (Rows2.alloc HRX.out _) ho hg hv)
                  clear ho hg hv
                  obtain ⟨n0, n1, n2, n3⟩ := HBX.out.facts
                  refine hK.out _ _ hS7 (fun hHeld => ?_)
                  clear hK K
                  refine wpAnyH_ready (rs := [15]) (by kernel_rfl) (by simp) ?_
                  refine AllReadyH.cons rfl (fun K hK => ?_) AllReadyH.nil
                  go_simp
                  refine hK.out _ _ (One.set hHeld hg2 (by omega) _ _) (fun hHeld => ?_)
                  clear hK K
                  try simp only [Act.put]
                  refine take_at (i := 16) 51 (v := ?_) rfl rfl (by kernel_rfl) (by kernel_rfl) (by kernel_rfl) (fun _ _ _ h => h) (Or.inl ⟨by rfl, ?_⟩) (by assumption) ?_
                  case refine_2 => ((intro w hSw); (try dsimp only at hSw); go_simp; (try with_reducible rfl))
                  try simp only [Act.put, List.setIfInBounds_toArray, List.set_cons_zero, List.set_cons_succ]
                  refine wpAnyH_ready (rs := [17]) (by kernel_rfl) (by simp) ?_
                  refine AllReadyH.cons rfl (fun K hK => ?_) AllReadyH.nil
                  go_simp
                  refine hK.out _ _ (One.set hHeld hg2 (by omega) _ _) (fun hHeld => ?_)
                  clear hK K
                  try simp only [Act.put]
                  refine wpAnyH_done (by kernel_rfl) ?_ _
                  go_wp2
                  go_roundw
                  case rel => exact ⟨i + 1, ks ++ [(floatOfInt .f64 t, y)], _, _, by omega, by go_num, HN2, by rw [List.length_append]; simp; omega, HT2, hid (by rw [List.length_append, List.map_append, List.map_append]; exact HRX.out.boxed (w.heap.size + 1) hzb _ _), hid (HCX.out.other (by omega) _ _), hid (HBX.out.put _ _), hid hHeld.2, by simp; omega⟩
                  case measure => simp [RowKit.intOf]; omega
              · go_simp
                refine hK.out _ _ hHeld (fun hHeld => ?_)
                clear hK K
                try simp only [Act.put, List.setIfInBounds_toArray, List.set_cons_zero, List.set_cons_succ]
                refine wpAnyH_ready (rs := [5, 12]) (by kernel_rfl) (by simp) ?_
                refine AllReadyH.cons rfl (fun K hK => ?_) (AllReadyH.cons rfl (fun K hK => ?_) AllReadyH.nil)
                · refine step_append_fl rfl (.tmp 37) (.tmp 40) (by rfl) W1.heap.size va ks.length (fls (ks.map Prod.fst)) (by rfl) (Rows2.alloc HRW.out _).oa _ _ (floatOfInt .f64 t) (by rfl) (lit_at _ _ _ _ (by first | rfl | (simp; done))) (by omega) (by first | omega | (simp; omega)) ?_
                  intro v7 w7 ho hg hv
                  obtain ⟨p7, c7, rfl⟩ := slice_own ho
                  have hS7 := One.grown hHeld hg hg2 (fun k hk => Nat.le_trans hzw (HLT.out k hk).1)
                  have hz7 : wr.heap.size ≤ w7.heap.size := Nat.le_trans (by first | omega | (simp; done) | (simp; omega)) hg.size
                  have HBX := hid (RBox.grown (RBox.alloc HBW.out _) hg (fun k hk => Nat.lt_of_lt_of_le hzb (HLT.out k hk).1))
                  have HCX := hid (RBox.grown (RBox.alloc HCW.out _) hg (fun k hk => Nat.lt_of_lt_of_le (Nat.lt_of_succ_lt hzb) (HLT.out k hk).1))
                  have HG := hid hg
                  have HGB := HLT2
                  have HRX := hid (Rows2.first (Rows2.alloc HRW.out _) ho hg hv)
                  clear ho hg hv
                  obtain ⟨m0, m1, _, _⟩ := HBX.out.facts
                  have m2 := fun c => (RBox.alloc HBX.out c).facts.1
                  have m3 := fun c => (RBox.alloc HBX.out c).facts.2.1
                  refine hK.out _ _ hS7 (fun hHeld => ?_)
                  clear hK K
                  refine take_at (i := 14) 50 (v := ?_) rfl rfl (by kernel_rfl) (by kernel_rfl) (by kernel_rfl) (fun _ _ _ h => h) (Or.inl ⟨by rfl, ?_⟩) (by assumption) ?_
                  case refine_2 => ((intro w hSw); (try dsimp only at hSw); go_simp; (try with_reducible rfl))
                  try simp only [Act.put, List.setIfInBounds_toArray]
                  refine wpAnyH_ready (rs := [12]) (by kernel_rfl) (by simp) ?_
                  refine AllReadyH.cons rfl (fun K hK => ?_) AllReadyH.nil
                  go_simp
                  refine hK.out _ _ (One.allocB hHeld _) (fun hHeld => ?_)
                  clear hK K
                  try simp only [Act.put, List.setIfInBounds_toArray, List.set_cons_zero, List.set_cons_succ]
                  refine wpAnyH_ready (rs := [13]) (by kernel_rfl) (by simp) ?_
                  refine AllReadyH.cons rfl (fun K hK => ?_) AllReadyH.nil
                  refine step_append_fl rfl (.tmp 43) (.tmp 48) (by rfl) W1.heap.size vb ks.length (fls (ks.map Prod.snd)) (by rfl) (Rows2.alloc HRX.out _).ob _ _ y (by rfl) (lit_at _ _ _ _ (by first | rfl | (simp; done))) (by omega) (by first | omega | (simp; omega)) ?_
                  intro v8 w8 ho hg hv
                  obtain ⟨p8, c8, rfl⟩ := slice_own ho
                  have hS7 := One.grown hHeld hg hg2 (fun k hk => Nat.le_trans hzw (HLU.out k hk).1)
                  have hz7 : wr.heap.size ≤ w8.heap.size := Nat.le_trans (by first | omega | (simp; done) | (simp; omega)) hg.size
                  have HBX := hid (RBox.grown (RBox.alloc HBX.out _) hg (fun k hk => Nat.lt_of_lt_of_le hzb (HLU.out k hk).1))
                  have HCX := hid (RBox.grown (RBox.alloc HCX.out _) hg (fun k hk => Nat.lt_of_lt_of_le (Nat.lt_of_succ_lt hzb) (HLU.out k hk).1))
                  have HG := hid hg
                  have HGB := HLU2
                  have HRX := hid (Rows2.second (Rows2.alloc HRX.out _) ho hg hv)
                  clear ho hg hv
                  obtain ⟨n0, n1, n2, n3⟩ := HBX.out.facts
                  refine hK.out _ _ hS7 (fun hHeld => ?_)
                  clear hK K
                  refine wpAnyH_ready (rs := [15]) (by kernel_rfl) (by simp) ?_
                  refine AllReadyH.cons rfl (fun K hK => ?_) AllReadyH.nil
                  go_simp
                  refine hK.out _ _ (One.set hHeld hg2 (by omega) _ _) (fun hHeld => ?_)
                  clear hK K
                  try simp only [Act.put]
                  refine take_at (i := 16) 51 (v := ?_) rfl rfl (by kernel_rfl) (by kernel_rfl) (by kernel_rfl) (fun _ _ _ h => h) (Or.inl ⟨by rfl, ?_⟩) (by assumption) ?_
                  case refine_2 => ((intro w hSw); (try dsimp only at hSw); go_simp; (try with_reducible rfl))
                  try simp only [Act.put, List.setIfInBounds_toArray, List.set_cons_zero, List.set_cons_succ]
                  refine wpAnyH_ready (rs := [17]) (by kernel_rfl) (by simp) ?_
                  refine AllReadyH.cons rfl (fun K hK => ?_) AllReadyH.nil
                  go_simp
                  refine hK.out _ _ (One.set hHeld hg2 (by omega) _ _) (fun hHeld => ?_)
                  clear hK K
                  try simp only [Act.put]
                  refine wpAnyH_done (by kernel_rfl) ?_ _
                  go_wp2
                  go_roundw
                  case rel => exact ⟨i + 1, ks ++ [(floatOfInt .f64 t, y)], _, _, by omega, by go_num, HN2, by rw [List.length_append]; simp; omega, HT2, hid (by rw [List.length_append, List.map_append, List.map_append]; exact HRX.out.boxed (w.heap.size + 1) hzb _ _), hid (HCX.out.other (by omega) _ _), hid (HBX.out.put _ _), hid hHeld.2, by simp; omega⟩
                  case measure => simp [RowKit.intOf]; omega
                · go_simp
                  refine hK.out _ _ (One.allocB hHeld _) (fun hHeld => ?_)
                  clear hK K
                  try simp only [Act.put, List.setIfInBounds_toArray, List.set_cons_zero, List.set_cons_succ]
                  refine wpAnyH_ready (rs := [5]) (by kernel_rfl) (by simp) ?_
                  refine AllReadyH.cons rfl (fun K hK => ?_) AllReadyH.nil
                  refine step_append_fl rfl (.tmp 37) (.tmp 40) (by rfl) W1.heap.size va ks.length (fls (ks.map Prod.fst)) (by rfl) (Rows2.alloc (Rows2.alloc HRW.out _) _).oa _ _ (floatOfInt .f64 t) (by rfl) (lit_old (lit_at _ _ _ _ (by first | rfl | (simp; done)))) (by omega) (by first | omega | (simp; omega)) ?_
                  intro v7 w7 ho hg hv
                  obtain ⟨p7, c7, rfl⟩ := slice_own ho
                  have hS7 := One.grown hHeld hg hg2 (fun k hk => Nat.le_trans hzw (HLT.out k hk).1)
                  have hz7 : wr.heap.size ≤ w7.heap.size := Nat.le_trans (by first | omega | (simp; done) | (simp; omega)) hg.size
                  have HBX := hid (RBox.grown (RBox.alloc (RBox.alloc HBW.out _) _) hg (fun k hk => Nat.lt_of_lt_of_le hzb (HLT.out k hk).1))
                  have HCX := hid (RBox.grown (RBox.alloc (RBox.alloc HCW.out _) _) hg (fun k hk => Nat.lt_of_lt_of_le (Nat.lt_of_succ_lt hzb) (HLT.out k hk).1))
                  have HG := hid hg
                  have HGB := HLT2
                  have HRX := hid (Rows2.first (Rows2.alloc (Rows2.alloc HRW.out _) _) ho hg hv)
                  clear ho hg hv
                  obtain ⟨m0, m1, _, _⟩ := HBX.out.facts
                  have m2 := fun c => (RBox.alloc HBX.out c).facts.1
                  have m3 := fun c => (RBox.alloc HBX.out c).facts.2.1
                  refine hK.out _ _ hS7 (fun hHeld => ?_)
                  clear hK K
                  refine take_at (i := 14) 50 (v := ?_) rfl rfl (by kernel_rfl) (by kernel_rfl) (by kernel_rfl) (fun _ _ _ h => h) (Or.inl ⟨by rfl, ?_⟩) (by assumption) ?_
                  case refine_2 => ((intro w hSw); (try dsimp only at hSw); go_simp; (try with_reducible rfl))
                  try simp only [Act.put, List.setIfInBounds_toArray]
                  refine wpAnyH_ready (rs := [13]) (by kernel_rfl) (by simp) ?_
                  refine AllReadyH.cons rfl (fun K hK => ?_) AllReadyH.nil
                  refine step_append_fl rfl (.tmp 43) (.tmp 48) (by rfl) W1.heap.size vb ks.length (fls (ks.map Prod.snd)) (by rfl) HRX.out.ob _ _ y (by rfl) (lit_grown wr.heap.size HG.out (lit_at _ _ _ _ (by first | rfl | (simp; done))) (by first | (simp; done) | (simp; omega)) HGB.out) (by omega) (by first | omega | (simp; omega)) ?_
                  intro v8 w8 ho hg hv
                  obtain ⟨p8, c8, rfl⟩ := slice_own ho
                  have hS7 := One.grown hHeld hg hg2 (fun k hk => Nat.le_trans hzw (HLU.out k hk).1)
                  have hz7 : wr.heap.size ≤ w8.heap.size := Nat.le_trans (by first | omega | (simp; done) | (simp; omega)) hg.size
                  have HBX := hid (RBox.grown HBX.out hg (fun k hk => Nat.lt_of_lt_of_le hzb (HLU.out k hk).1))
                  have HCX := hid (RBox.grown HCX.out hg (fun k hk => Nat.lt_of_lt_of_le (Nat.lt_of_succ_lt hzb) (HLU.out k hk).1))
                  have HG := hid hg
                  have HGB := HLU2
                  have HRX := hid (Rows2.second HRX.out ho hg hv)
                  clear ho hg hv
                  obtain ⟨n0, n1, n2, n3⟩ := HBX.out.facts
                  refine hK.out _ _ hS7 (fun hHeld => ?_)
                  clear hK K
                  refine wpAnyH_ready (rs := [15]) (by kernel_rfl) (by simp) ?_
                  refine AllReadyH.cons rfl (fun K hK => ?_) AllReadyH.nil
                  go_simp
                  refine hK.out _ _ (One.set hHeld hg2 (by omega) _ _) (fun hHeld => ?_)
                  clear hK K
                  try simp only [Act.put]
                  refine take_at (i := 16) 51 (v := ?_) rfl rfl (by kernel_rfl) (by kernel_rfl) (by kernel_rfl) (fun _ _ _ h => h) (Or.inl ⟨by rfl, ?_⟩) (by assumption) ?_
                  case refine_2 => ((intro w hSw); (try dsimp only at hSw); go_simp; (try with_reducible rfl))
                  try simp only [Act.put, List.setIfInBounds_toArray, List.set_cons_zero, List.set_cons_succ]
                  refine wpAnyH_ready (rs := [17]) (by kernel_rfl) (by simp) ?_
                  refine AllReadyH.cons rfl (fun K hK => ?_) AllReadyH.nil
                  go_simp
                  refine hK.out _ _ (One.set hHeld hg2 (by omega) _ _) (fun hHeld => ?_)
                  clear hK K
                  try simp only [Act.put]
                  refine wpAnyH_done (by kernel_rfl) ?_ _
                  go_wp2
                  go_roundw
                  case rel => exact ⟨i + 1, ks ++ [(floatOfInt .f64 t, y)], _, _, by omega, by go_num, HN2, by rw [List.length_append]; simp; omega, HT2, hid (by rw [List.length_append, List.map_append, List.map_append]; exact HRX.out.boxed (w.heap.size + 1) hzb _ _), hid (HCX.out.other (by omega) _ _), hid (HBX.out.put _ _), hid hHeld.2, by simp; omega⟩
                  case measure => simp [RowKit.intOf]; omega
              · go_simp
                refine hK.out _ _ (One.allocB hHeld _) (fun hHeld => ?_)
                clear hK K
                try simp only [Act.put, List.setIfInBounds_toArray, List.set_cons_zero, List.set_cons_succ]
                refine wpAnyH_ready (rs := [5, 7]) (by kernel_rfl) (by simp) ?_
                refine AllReadyH.cons rfl (fun K hK => ?_) (AllReadyH.cons rfl (fun K hK => ?_) AllReadyH.nil)
                · refine step_append_fl rfl (.tmp 37) (.tmp 40) (by rfl) W1.heap.size va ks.length (fls (ks.map Prod.fst)) (by rfl) (Rows2.alloc (Rows2.alloc HRW.out _) _).oa _ _ (floatOfInt .f64 t) (by rfl) (lit_old (lit_at _ _ _ _ (by first | rfl | (simp; done)))) (by omega) (by first | omega | (simp; omega)) ?_
                  intro v7 w7 ho hg hv
                  obtain ⟨p7, c7, rfl⟩ := slice_own ho
                  have hS7 := One.grown hHeld hg hg2 (fun k hk => Nat.le_trans hzw (HLT.out k hk).1)
                  have hz7 : wr.heap.size ≤ w7.heap.size := Nat.le_trans (by first | omega | (simp; done) | (simp; omega)) hg.size
                  have HBX := hid (RBox.grown (RBox.alloc (RBox.alloc HBW.out _) _) hg (fun k hk => Nat.lt_of_lt_of_le hzb (HLT.out k hk).1))
                  have HCX := hid (RBox.grown (RBox.alloc (RBox.alloc HCW.out _) _) hg (fun k hk => Nat.lt_of_lt_of_le (Nat.lt_of_succ_lt hzb) (HLT.out k hk).1))
                  have HG := hid hg
                  have HGB := HLT2
                  have HRX := hid (Rows2.first (Rows2.alloc (Rows2.alloc HRW.out _) _) ho hg hv)
                  clear ho hg hv
                  obtain ⟨m0, m1, _, _⟩ := HBX.out.facts
                  have m2 := fun c => (RBox.alloc HBX.out c).facts.1
                  have m3 := fun c => (RBox.alloc HBX.out c).facts.2.1
                  refine hK.out _ _ hS7 (fun hHeld => ?_)
                  clear hK K
                  refine wpAnyH_ready (rs := [7]) (by kernel_rfl) (by simp) ?_
                  refine AllReadyH.cons rfl (fun K hK => ?_) AllReadyH.nil
                  go_simp
                  refine hK.out _ _ hHeld (fun hHeld => ?_)
                  clear hK K
                  try simp only [Act.put, List.setIfInBounds_toArray, List.set_cons_zero, List.set_cons_succ]
                  refine take_at (i := 14) 50 (v := ?_) rfl rfl (by kernel_rfl) (by kernel_rfl) (by kernel_rfl) (fun _ _ _ h => h) (Or.inl ⟨by rfl, ?_⟩) (by assumption) ?_
                  case refine_2 => ((intro w hSw); (try dsimp only at hSw); go_simp; (try with_reducible rfl))
                  try simp only [Act.put, List.setIfInBounds_toArray, List.set_cons_zero, List.set_cons_succ]
                  refine wpAnyH_ready (rs := [13]) (by kernel_rfl) (by simp) ?_
                  refine AllReadyH.cons rfl (fun K hK => ?_) AllReadyH.nil
                  refine step_append_fl rfl (.tmp 43) (.tmp 48) (by rfl) W1.heap.size vb ks.length (fls (ks.map Prod.snd)) (by rfl) HRX.out.ob _ _ y (by rfl) (lit_grown wr.heap.size HG.out (lit_at _ _ _ _ (by first | rfl | (simp; done))) (by first | (simp; done) | (simp; omega)) HGB.out) (by omega) (by first | omega | (simp; omega)) ?_
                  intro v8 w8 ho hg hv
                  obtain ⟨p8, c8, rfl⟩ := slice_own ho
                  have hS7 := One.grown hHeld hg hg2 (fun k hk => Nat.le_trans hzw (HLU.out k hk).1)
                  have hz7 : wr.heap.size ≤ w8.heap.size := Nat.le_trans (by first | omega | (simp; done) | (simp; omega)) hg.size
                  have HBX := hid (RBox.grown HBX.out hg (fun k hk => Nat.lt_of_lt_of_le hzb (HLU.out k hk).1))
                  have HCX := hid (RBox.grown HCX.out hg (fun k hk => Nat.lt_of_lt_of_le (Nat.lt_of_succ_lt hzb) (HLU.out k hk).1))
                  have HG := hid hg
                  have HGB := HLU2
                  have HRX := hid (Rows2.second HRX.out ho hg hv)
                  clear ho hg hv
                  obtain ⟨n0, n1, n2, n3⟩ := HBX.out.facts
                  refine hK.out _ _ hS7 (fun hHeld => ?_)
                  clear hK K
                  refine wpAnyH_ready (rs := [15]) (by kernel_rfl) (by simp) ?_
                  refine AllReadyH.cons rfl (fun K hK => ?_) AllReadyH.nil
                  go_simp
                  refine hK.out _ _ (One.set hHeld hg2 (by omega) _ _) (fun hHeld => ?_)
                  clear hK K
                  try simp only [Act.put]
                  refine take_at (i := 16) 51 (v := ?_) rfl rfl (by kernel_rfl) (by kernel_rfl) (by kernel_rfl) (fun _ _ _ h => h) (Or.inl ⟨by rfl, ?_⟩) (by assumption) ?_
                  case refine_2 => ((intro w hSw); (try dsimp only at hSw); go_simp; (try with_reducible rfl))
                  try simp only [Act.put, List.setIfInBounds_toArray, List.set_cons_zero, List.set_cons_succ]
                  refine wpAnyH_ready (rs := [17]) (by kernel_rfl) (by simp) ?_
                  refine AllReadyH.cons rfl (fun K hK => ?_) AllReadyH.nil
                  go_simp
                  refine hK.out _ _ (One.set hHeld hg2 (by omega) _ _) (fun hHeld => ?_)
                  clear hK K
                  try simp only [Act.put]
                  refine wpAnyH_done (by kernel_rfl) ?_ _
                  go_wp2
                  go_roundw
                  case rel => exact ⟨i + 1, ks ++ [(floatOfInt .f64 t, y)], _, _, by omega, by go_num, HN2, by rw [List.length_append]; simp; omega, HT2, hid (by rw [List.length_append, List.map_append, List.map_append]; exact HRX.out.boxed (w.heap.size + 1) hzb _ _), hid (HCX.out.other (by omega) _ _), hid (HBX.out.put _ _), hid hHeld.2, by simp; omega⟩
                  case measure => simp [RowKit.intOf]; omega
                · go_simp
                  refine hK.out _ _ hHeld (fun hHeld => ?_)
                  clear hK K
                  try simp only [Act.put, List.setIfInBounds_toArray, List.set_cons_zero, List.set_cons_succ]
                  refine wpAnyH_ready (rs := [5]) (by kernel_rfl) (by simp) ?_
                  refine AllReadyH.cons rfl (fun K hK => ?_) AllReadyH.nil
                  refine step_append_fl rfl (.tmp 37) (.tmp 40) (by rfl) W1.heap.size va ks.length (fls (ks.map Prod.fst)) (by rfl) (Rows2.alloc (Rows2.alloc HRW.out _) _).oa _ _ (floatOfInt .f64 t) (by rfl) (lit_old (lit_at _ _ _ _ (by first | rfl | (simp; done)))) (by omega) (by first | omega | (simp; omega)) ?_
                  intro v7 w7 ho hg hv
                  obtain ⟨p7, c7, rfl⟩ := slice_own ho
                  have hS7 := One.grown hHeld hg hg2 (fun k hk => Nat.le_trans hzw (HLT.out k hk).1)
                  have hz7 : wr.heap.size ≤ w7.heap.size := Nat.le_trans (by first | omega | (simp; done) | (simp; omega)) hg.size
                  have HBX := hid (RBox.grown (RBox.alloc (RBox.alloc HBW.out _) _) hg (fun k hk => Nat.lt_of_lt_of_le hzb (HLT.out k hk).1))
                  have HCX := hid (RBox.grown (RBox.alloc (RBox.alloc HCW.out _) _) hg (fun k hk => Nat.lt_of_lt_of_le (Nat.lt_of_succ_lt hzb) (HLT.out k hk).1))
                  have HG := hid hg
                  have HGB := HLT2
                  have HRX := hid (Rows2.first (Rows2.alloc (Rows2.alloc HRW.out _) _) ho hg hv)
                  clear ho hg hv
                  obtain ⟨m0, m1, _, _⟩ := HBX.out.facts
                  have m2 := fun c => (RBox.alloc HBX.out c).facts.1
                  have m3 := fun c => (RBox.alloc HBX.out c).facts.2.1
                  refine hK.out _ _ hS7 (fun hHeld => ?_)
                  clear hK K
                  refine take_at (i := 14) 50 (v := ?_) rfl rfl (by kernel_rfl) (by kernel_rfl) (by kernel_rfl) (fun _ _ _ h => h) (Or.inl ⟨by rfl, ?_⟩) (by assumption) ?_
                  case refine_2 => ((intro w hSw); (try dsimp only at hSw); go_simp; (try with_reducible rfl))
                  try simp only [Act.put, List.setIfInBounds_toArray]
                  refine wpAnyH_ready (rs := [13]) (by kernel_rfl) (by simp) ?_
                  refine AllReadyH.cons rfl (fun K hK => ?_) AllReadyH.nil
                  refine step_append_fl rfl (.tmp 43) (.tmp 48) (by rfl) W1.heap.size vb ks.length (fls (ks.map Prod.snd)) (by rfl) HRX.out.ob _ _ y (by rfl) (lit_grown wr.heap.size HG.out (lit_at _ _ _ _ (by first | rfl | (simp; done))) (by first | (simp; done) | (simp; omega)) HGB.out) (by omega) (by first | omega | (simp; omega)) ?_
                  intro v8 w8 ho hg hv
                  obtain ⟨p8, c8, rfl⟩ := slice_own ho
                  have hS7 := One.grown hHeld hg hg2 (fun k hk => Nat.le_trans hzw (HLU.out k hk).1)
                  have hz7 : wr.heap.size ≤ w8.heap.size := Nat.le_trans (by first | omega | (simp; done) | (simp; omega)) hg.size
                  have HBX := hid (RBox.grown HBX.out hg (fun k hk => Nat.lt_of_lt_of_le hzb (HLU.out k hk).1))
                  have HCX := hid (RBox.grown HCX.out hg (fun k hk => Nat.lt_of_lt_of_le (Nat.lt_of_succ_lt hzb) (HLU.out k hk).1))
                  have HG := hid hg
                  have HGB := HLU2
                  have HRX := hid (Rows2.second HRX.out ho hg hv)
                  clear ho hg hv
                  obtain ⟨n0, n1, n2, n3⟩ := HBX.out.facts
                  refine hK.out _ _ hS7 (fun hHeld => ?_)
                  clear hK K
                  refine wpAnyH_ready (rs := [15]) (by kernel_rfl) (by simp) ?_
                  refine AllReadyH.cons rfl (fun K hK => ?_) AllReadyH.nil
                  go_simp
                  refine hK.out _ _ (One.set hHeld hg2 (by omega) _ _) (fun hHeld => ?_)
                  clear hK K
                  try simp only [Act.put]
                  refine take_at (i := 16) 51 (v := ?_) rfl rfl (by kernel_rfl) (by kernel_rfl) (by kernel_rfl) (fun _ _ _ h => h) (Or.inl ⟨by rfl, ?_⟩) (by assumption) ?_
                  case refine_2 => ((intro w hSw); (try dsimp only at hSw); go_simp; (try with_reducible rfl))
                  try simp only [Act.put, List.setIfInBounds_toArray, List.set_cons_zero, List.set_cons_succ]
                  refine wpAnyH_ready (rs := [17]) (by kernel_rfl) (by simp) ?_
                  refine AllReadyH.cons rfl (fun K hK => ?_) AllReadyH.nil
                  go_simp
                  refine hK.out _ _ (One.set hHeld hg2 (by omega) _ _) (fun hHeld => ?_)
                  clear hK K
                  try simp only [Act.put]
                  refine wpAnyH_done (by kernel_rfl) ?_ _
                  go_wp2
                  go_roundw
                  case rel => exact ⟨i + 1, ks ++ [(floatOfInt .f64 t, y)], _, _, by omega, by go_num, HN2, by rw [List.length_append]; simp; omega, HT2, hid (by rw [List.length_append, List.map_append, List.map_append]; exact HRX.out.boxed (w.heap.size + 1) hzb _ _), hid (HCX.out.other (by omega) _ _), hid (HBX.out.put _ _), hid hHeld.2, by simp; omega⟩
                  case measure => simp [RowKit.intOf]; omega
            · go_simp
              refine hK.out _ _ hHeld (fun hHeld => ?_)
              clear hK K
              try simp only [Act.put, List.setIfInBounds_toArray, List.set_cons_zero, List.set_cons_succ]
              refine wpAnyH_ready (rs := [4, 12]) (by kernel_rfl) (by simp) ?_
              refine AllReadyH.cons rfl (fun K hK => ?_) (AllReadyH.cons rfl (fun K hK => ?_) AllReadyH.nil)
              · go_simp
                refine hK.out _ _ (One.allocB hHeld _) (fun hHeld => ?_)
                clear hK K
                try simp only [Act.put, List.setIfInBounds_toArray, List.set_cons_zero, List.set_cons_succ]
                refine wpAnyH_ready (rs := [5, 12]) (by kernel_rfl) (by simp) ?_
                refine AllReadyH.cons rfl (fun K hK => ?_) (AllReadyH.cons rfl (fun K hK => ?_) AllReadyH.nil)
                · refine step_append_fl rfl (.tmp 37) (.tmp 40) (by rfl) W1.heap.size va ks.length (fls (ks.map Prod.fst)) (by rfl) (Rows2.alloc HRW.out _).oa _ _ (floatOfInt .f64 t) (by rfl) (lit_at _ _ _ _ (by first | rfl | (simp; done))) (by omega) (by first | omega | (simp; omega)) ?_
                  intro v7 w7 ho hg hv
                  obtain ⟨p7, c7, rfl⟩ := slice_own ho
                  have hS7 := One.grown hHeld hg hg2 (fun k hk => Nat.le_trans hzw (HLT.out k hk).1)
                  have hz7 : wr.heap.size ≤ w7.heap.size := Nat.le_trans (by first | omega | (simp; done) | (simp; omega)) hg.size
                  have HBX := hid (RBox.grown (RBox.alloc HBW.out _) hg (fun k hk => Nat.lt_of_lt_of_le hzb (HLT.out k hk).1))
                  have HCX := hid (RBox.grown (RBox.alloc HCW.out _) hg (fun k hk => Nat.lt_of_lt_of_le (Nat.lt_of_succ_lt hzb) (HLT.out k hk).1))
                  have HG := hid hg
                  have HGB := HLT2
                  have HRX := hid (Rows2.first (Rows2.alloc HRW.out _) ho hg hv)
                  clear ho hg hv
                  obtain ⟨m0, m1, _, _⟩ := HBX.out.facts
                  have m2 := fun c => (RBox.alloc HBX.out c).facts.1
                  have m3 := fun c => (RBox.alloc HBX.out c).facts.2.1
                  refine hK.out _ _ hS7 (fun hHeld => ?_)
                  clear hK K
                  refine take_at (i := 14) 50 (v := ?_) rfl rfl (by kernel_rfl) (by kernel_rfl) (by kernel_rfl) (fun _ _ _ h => h) (Or.inl ⟨by rfl, ?_⟩) (by assumption) ?_
                  case refine_2 => ((intro w hSw); (try dsimp only at hSw); go_simp; (try with_reducible rfl))
                  try simp only [Act.put, List.setIfInBounds_toArray]
                  refine wpAnyH_ready (rs := [12]) (by kernel_rfl) (by simp) ?_
                  refine AllReadyH.cons rfl (fun K hK => ?_) AllReadyH.nil
                  go_simp
                  refine hK.out _ _ (One.allocB hHeld _) (fun hHeld => ?_)
                  clear hK K
                  try simp only [Act.put, List.setIfInBounds_toArray, List.set_cons_zero, List.set_cons_succ]
                  refine wpAnyH_ready (rs := [13]) (by kernel_rfl) (by simp) ?_
                  refine AllReadyH.cons rfl (fun K hK => ?_) AllReadyH.nil
                  refine step_append_fl rfl (.tmp 43) (.tmp 48) (by rfl) W1.heap.size vb ks.length (fls (ks.map Prod.snd)) (by rfl) (Rows2.alloc HRX.out _).ob _ _ y (by rfl) (lit_at _ _ _ _ (by first | rfl | (simp; done))) (by omega) (by first | omega | (simp; omega)) ?_
                  intro v8 w8 ho hg hv
                  obtain ⟨p8, c8, rfl⟩ := slice_own ho
                  have hS7 := One.grown hHeld hg hg2 (fun k hk => Nat.le_trans hzw (HLU.out k hk).1)
                  have hz7 : wr.heap.size ≤ w8.heap.size := Nat.le_trans (by first | omega | (simp; done) | (simp; omega)) hg.size
                  have HBX := hid (RBox.grown (RBox.alloc HBX.out _) hg (fun k hk => Nat.lt_of_lt_of_le hzb (HLU.out k hk).1))
                  have HCX := hid (RBox.grown (RBox.alloc HCX.out _) hg (fun k hk => Nat.lt_of_lt_of_le (Nat.lt_of_succ_lt hzb) (HLU.out k hk).1))
                  have HG := hid hg
                  have HGB := HLU2
                  have HRX := hid (Rows2.second (Rows2.alloc HRX.out _) ho hg hv)
                  clear ho hg hv
                  obtain ⟨n0, n1, n2, n3⟩ := HBX.out.facts
                  refine hK.out _ _ hS7 (fun hHeld => ?_)
                  clear hK K
                  refine wpAnyH_ready (rs := [15]) (by kernel_rfl) (by simp) ?_
                  refine AllReadyH.cons rfl (fun K hK => ?_) AllReadyH.nil
                  go_simp
                  refine hK.out _ _ (One.set hHeld hg2 (by omega) _ _) (fun hHeld => ?_)
                  clear hK K
                  try simp only [Act.put]
                  refine take_at (i := 16) 51 (v := ?_) rfl rfl (by kernel_rfl) (by kernel_rfl) (by kernel_rfl) (fun _ _ _ h => h) (Or.inl ⟨by rfl, ?_⟩) (by assumption) ?_
                  case refine_2 => ((intro w hSw); (try dsimp only at hSw); go_simp; (try with_reducible rfl))
                  try simp only [Act.put, List.setIfInBounds_toArray, List.set_cons_zero, List.set_cons_succ]
                  refine wpAnyH_ready (rs := [17]) (by kernel_rfl) (by simp) ?_
                  refine AllReadyH.cons rfl (fun K hK => ?_) AllReadyH.nil
                  go_simp
                  refine hK.out _ _ (One.set hHeld hg2 (by omega) _ _) (fun hHeld => ?_)
                  clear hK K
                  try simp only [Act.put]
                  refine wpAnyH_done (by kernel_rfl) ?_ _
                  go_wp2
                  go_roundw
                  case rel => exact ⟨i + 1, ks ++ [(floatOfInt .f64 t, y)], _, _, by omega, by go_num, HN2, by rw [List.length_append]; simp; omega, HT2, hid (by rw [List.length_append, List.map_append, List.map_append]; exact HRX.out.boxed (w.heap.size + 1) hzb _ _), hid (HCX.out.other (by omega) _ _), hid (HBX.out.put _ _), hid hHeld.2, by simp; omega⟩
                  case measure => simp [RowKit.intOf]; omega
                · go_simp
                  refine hK.out _ _ (One.allocB hHeld _) (fun hHeld => ?_)
                  clear hK K
                  try simp only [Act.put, List.setIfInBounds_toArray, List.set_cons_zero, List.set_cons_succ]
                  refine wpAnyH_ready (rs := [5]) (by kernel_rfl) (by simp) ?_
                  refine AllReadyH.cons rfl (fun K hK => ?_) AllReadyH.nil
                  refine step_append_fl rfl (.tmp 37) (.tmp 40) (by rfl) W1.heap.size va ks.length (fls (ks.map Prod.fst)) (by rfl) (Rows2.alloc (Rows2.alloc HRW.out _) _).oa _ _ (floatOfInt .f64 t) (by rfl) (lit_old (lit_at _ _ _ _ (by first | rfl | (simp; done)))) (by omega) (by first | omega | (simp; omega)) ?_
                  intro v7 w7 ho hg hv
                  obtain ⟨p7, c7, rfl⟩ := slice_own ho
                  have hS7 := One.grown hHeld hg hg2 (fun k hk => Nat.le_trans hzw (HLT.out k hk).1)
                  have hz7 : wr.heap.size ≤ w7.heap.size := Nat.le_trans (by first | omega | (simp; done) | (simp; omega)) hg.size
                  have HBX := hid (RBox.grown (RBox.alloc (RBox.alloc HBW.out _) _) hg (fun k hk => Nat.lt_of_lt_of_le hzb (HLT.out k hk).1))
                  have HCX := hid (RBox.grown (RBox.alloc (RBox.alloc HCW.out _) _) hg (fun k hk => Nat.lt_of_lt_of_le (Nat.lt_of_succ_lt hzb) (HLT.out k hk).1))
                  have HG := hid hg
                  have HGB := HLT2
                  have HRX := hid (Rows2.first (Rows2.alloc (Rows2.alloc HRW.out _) _) ho hg hv)
                  clear ho hg hv
                  obtain ⟨m0, m1, _, _⟩ := HBX.out.facts
                  have m2 := fun c => (RBox.alloc HBX.out c).facts.1
                  have m3 := fun c => (RBox.alloc HBX.out c).facts.2.1
                  refine hK.out _ _ hS7 (fun hHeld => ?_)
                  clear hK K
                  refine take_at (i := 14) 50 (v := ?_) rfl rfl (by kernel_rfl) (by kernel_rfl) (by kernel_rfl) (fun _ _ _ h => h) (Or.inl ⟨by rfl, ?_⟩) (by assumption) ?_
                  case refine_2 => ((intro w hSw); (try dsimp only at hSw); go_simp; (try with_reducible rfl))
                  try simp only [Act.put, List.setIfInBounds_toArray]
                  refine wpAnyH_ready (rs := [13]) (by kernel_rfl) (by simp) ?_
                  refine AllReadyH.cons rfl (fun K hK => ?_) AllReadyH.nil
                  refine step_append_fl rfl (.tmp 43) (.tmp 48) (by rfl) W1.heap.size vb ks.length (fls (ks.map Prod.snd)) (by rfl) HRX.out.ob _ _ y (by rfl) (lit_grown wr.heap.size HG.out (lit_at _ _ _ _ (by first | rfl | (simp; done))) (by first | (simp; done) | (simp; omega)) HGB.out) (by omega) (by first | omega | (simp; omega)) ?_
                  intro v8 w8 ho hg hv
                  obtain ⟨p8, c8, rfl⟩ := slice_own ho
                  have hS7 := One.grown hHeld hg hg2 (fun k hk => Nat.le_trans hzw (HLU.out k hk).1)
                  have hz7 : wr.heap.size ≤ w8.heap.size := Nat.le_trans (by first | omega | (simp; done) | (simp; omega)) hg.size
                  have HBX := hid (RBox.grown HBX.out hg (fun k hk => Nat.lt_of_lt_of_le hzb (HLU.out k hk).1))
                  have HCX := hid (RBox.grown HCX.out hg (fun k hk => Nat.lt_of_lt_of_le (Nat.lt_of_succ_lt hzb) (HLU.out k hk).1))
                  have HG := hid hg
                  have HGB := HLU2
                  have HRX := hid (Rows2.second HRX.out ho hg hv)
                  clear ho hg hv
                  obtain ⟨n0, n1, n2, n3⟩ := HBX.out.facts
                  refine hK.out _ _ hS7 (fun hHeld => ?_)
                  clear hK K
                  refine wpAnyH_ready (rs := [15]) (by kernel_rfl) (by simp) ?_
                  refine AllReadyH.cons rfl (fun K hK => ?_) AllReadyH.nil
                  go_simp
                  refine hK.out _ _ (One.set hHeld hg2 (by omega) _ _) (fun hHeld => ?_)
                  clear hK K
                  try simp only [Act.put]
                  refine take_at (i := 16) 51 (v := ?_) rfl rfl (by kernel_rfl) (by kernel_rfl) (by kernel_rfl) (fun _ _ _ h => h) (Or.inl ⟨by rfl, ?_⟩) (by assumption) ?_
                  case refine_2 => ((intro w hSw); (try dsimp only at hSw); go_simp; (try with_reducible rfl))
                  try simp only [Act.put, List.setIfInBounds_toArray, List.set_cons_zero, List.set_cons_succ]
                  refine wpAnyH_ready (rs := [17]) (by kernel_rfl) (by simp) ?_
                  refine AllReadyH.cons rfl (fun K hK => ?_) AllReadyH.nil
                  go_simp
                  refine hK.out _ _ (One.set hHeld hg2 (by omega) _ _) (fun hHeld => ?_)
                  clear hK K
                  try simp only [Act.put]
                  refine wpAnyH_done (by kernel_rfl) ?_ _
                  go_wp2
                  go_roundw
                  case rel => exact ⟨i + 1, ks ++ [(floatOfInt .f64 t, y)], _, _, by omega, by go_num, HN2, by rw [List.length_append]; simp; omega, HT2, hid (by rw [List.length_append, List.map_append, List.map_append]; exact HRX.out.boxed (w.heap.size + 1) hzb _ _), hid (HCX.out.other (by omega) _ _), hid (HBX.out.put _ _), hid hHeld.2, by simp; omega⟩
                  case measure => simp [RowKit.intOf]; omega
              · go_simp
                refine hK.out _ _ (One.allocB hHeld _) (fun hHeld => ?_)
                clear hK K
                try simp only [Act.put, List.setIfInBounds_toArray, List.set_cons_zero, List.set_cons_succ]
                refine wpAnyH_ready (rs := [4]) (by kernel_rfl) (by simp) ?_
                refine AllReadyH.cons rfl (fun K hK => ?_) AllReadyH.nil
                go_simp
                refine hK.out _ _ (One.allocB hHeld _) (fun hHeld => ?_)
                clear hK K
                try simp only [Act.put, List.setIfInBounds_toArray, List.set_cons_zero, List.set_cons_succ]
                refine wpAnyH_ready (rs := [5]) (by kernel_rfl) (by simp) ?_
                refine AllReadyH.cons rfl (fun K hK => ?_) AllReadyH.nil
                refine step_append_fl rfl (.tmp 37) (.tmp 40) (by rfl) W1.heap.size va ks.length (fls (ks.map Prod.fst)) (by rfl) (Rows2.alloc (Rows2.alloc HRW.out _) _).oa _ _ (floatOfInt .f64 t) (by rfl) (lit_at _ _ _ _ (by first | rfl | (simp; done))) (by omega) (by first | omega | (simp; omega)) ?_
                intro v7 w7 ho hg hv
                obtain ⟨p7, c7, rfl⟩ := slice_own ho
                have hS7 := One.grown hHeld hg hg2 (fun k hk => Nat.le_trans hzw (HLT.out k hk).1)
                have hz7 : wr.heap.size ≤ w7.heap.size := Nat.le_trans (by first | omega | (simp; done) | (simp; omega)) hg.size
                have HBX := hid (RBox.grown (RBox.alloc (RBox.alloc HBW.out _) _) hg (fun k hk => Nat.lt_of_lt_of_le hzb (HLT.out k hk).1))
                have HCX := hid (RBox.grown (RBox.alloc (RBox.alloc HCW.out _) _) hg (fun k hk => Nat.lt_of_lt_of_le (Nat.lt_of_succ_lt hzb) (HLT.out k hk).1))
                have HG := hid hg
                have HGB := HLT2
                have HRX := hid (Rows2.first (Rows2.alloc (Rows2.alloc HRW.out _) _) ho hg hv)
                clear ho hg hv
                obtain ⟨m0, m1, _, _⟩ := HBX.out.facts
                have m2 := fun c => (RBox.alloc HBX.out c).facts.1
                have m3 := fun c => (RBox.alloc HBX.out c).facts.2.1
                refine hK.out _ _ hS7 (fun hHeld => ?_)
                clear hK K
                refine take_at (i := 14) 50 (v := ?_) rfl rfl (by kernel_rfl) (by kernel_rfl) (by kernel_rfl) (fun _ _ _ h => h) (Or.inl ⟨by rfl, ?_⟩) (by assumption) ?_
                case refine_2 => ((intro w hSw); (try dsimp only at hSw); go_simp; (try with_reducible rfl))
                try simp only [Act.put, List.setIfInBounds_toArray]
                refine wpAnyH_ready (rs := [13]) (by kernel_rfl) (by simp) ?_
                refine AllReadyH.cons rfl (fun K hK => ?_) AllReadyH.nil
                refine step_append_fl rfl (.tmp 43) (.tmp 48) (by rfl) W1.heap.size vb ks.length (fls (ks.map Prod.snd)) (by rfl) HRX.out.ob _ _ y (by rfl) (lit_grown wr.heap.size HG.out (lit_old (lit_at _ _ _ _ (by first | rfl | (simp; done)))) (by first | (simp; done) | (simp; omega)) HGB.out) (by omega) (by first | omega | (simp; omega)) ?_
                intro v8 w8 ho hg hv
                obtain ⟨p8, c8, rfl⟩ := slice_own ho
                have hS7 := One.grown hHeld hg hg2 (fun k hk => Nat.le_trans hzw (HLU.out k hk).1)
                have hz7 : wr.heap.size ≤ w8.heap.size := Nat.le_trans (by first | omega | (simp; done) | (simp; omega)) hg.size
                have HBX := hid (RBox.grown HBX.out hg (fun k hk => Nat.lt_of_lt_of_le hzb (HLU.out k hk).1))
                have HCX := hid (RBox.grown HCX.out hg (fun k hk => Nat.lt_of_lt_of_le (Nat.lt_of_succ_lt hzb) (HLU.out k hk).1))
                have HG := hid hg
                have HGB := HLU2
                have HRX := hid (Rows2.second HRX.out ho hg hv)
                clear ho hg hv
                obtain ⟨n0, n1, n2, n3⟩ := HBX.out.facts
                refine hK.out _ _ hS7 (fun hHeld => ?_)
                clear hK K
                refine wpAnyH_ready (rs := [15]) (by kernel_rfl) (by simp) ?_
                refine AllReadyH.cons rfl (fun K hK => ?_) AllReadyH.nil
                go_simp
                refine hK.out _ _ (One.set hHeld hg2 (by omega) _ _) (fun hHeld => ?_)
                clear hK K
                try simp only [Act.put]
                refine take_at (i := 16) 51 (v := ?_) rfl rfl (by kernel_rfl) (by kernel_rfl) (by kernel_rfl) (fun _ _ _ h => h) (Or.inl ⟨by rfl, ?_⟩) (by assumption) ?_
                case refine_2 => ((intro w hSw); (try dsimp only at hSw); go_simp; (try with_reducible rfl))
                try simp only [Act.put, List.setIfInBounds_toArray, List.set_cons_zero, List.set_cons_succ]
                refine wpAnyH_ready (rs := [17]) (by kernel_rfl) (by simp) ?_
                refine AllReadyH.cons rfl (fun K hK => ?_) AllReadyH.nil
                go_simp
                refine hK.out _ _ (One.set hHeld hg2 (by omega) _ _) (fun hHeld => ?_)
                clear hK K
                try simp only [Act.put]
                refine wpAnyH_done (by kernel_rfl) ?_ _
                go_wp2
                go_roundw
                case rel => exact ⟨i + 1, ks ++ [(floatOfInt .f64 t, y)], _, _, by omega, by go_num, HN2, by rw [List.length_append]; simp; omega, HT2, hid (by rw [List.length_append, List.map_append, List.map_append]; exact HRX.out.boxed (w.heap.size + 1) hzb _ _), hid (HCX.out.other (by omega) _ _), hid (HBX.out.put _ _), hid hHeld.2, by simp; omega⟩
                case measure => simp [RowKit.intOf]; omega
            · go_simp
              refine hK.out _ _ (One.allocB hHeld _) (fun hHeld => ?_)
              clear hK K
              try simp only [Act.put, List.setIfInBounds_toArray, List.set_cons_zero, List.set_cons_succ]
              refine wpAnyH_ready (rs := [4, 7]) (by kernel_rfl) (by simp) ?_
              refine AllReadyH.cons rfl (fun K hK => ?_) (AllReadyH.cons rfl (fun K hK => ?_) AllReadyH.nil)
              · go_simp
                refine hK.out _ _ (One.allocB hHeld _) (fun hHeld => ?_)
                clear hK K
                try simp only [Act.put, List.setIfInBounds_toArray, List.set_cons_zero, List.set_cons_succ]
                refine wpAnyH_ready (rs := [5, 7]) (by kernel_rfl) (by simp) ?_
                refine AllReadyH.cons rfl (fun K hK => ?_) (AllReadyH.cons rfl (fun K hK => ?_) AllReadyH.nil)
                · refine step_append_fl rfl (.tmp 37) (.tmp 40) (by rfl) W1.heap.size va ks.length (fls (ks.map Prod.fst)) (by rfl) (Rows2.alloc (Rows2.alloc HRW.out _) _).oa _ _ (floatOfInt .f64 t) (by rfl) (lit_at _ _ _ _ (by first | rfl | (simp; done))) (by omega) (by first | omega | (simp; omega)) ?_
                  intro v7 w7 ho hg hv
                  obtain ⟨p7, c7, rfl⟩ := slice_own ho
                  have hS7 := One.grown hHeld hg hg2 (fun k hk => Nat.le_trans hzw (HLT.out k hk).1)
                  have hz7 : wr.heap.size ≤ w7.heap.size := Nat.le_trans (by first | omega | (simp; done) | (simp; omega)) hg.size
                  have HBX := hid (RBox.grown (RBox.alloc (RBox.alloc HBW.out _) _) hg (fun k hk => Nat.lt_of_lt_of_le hzb (HLT.out k hk).1))
                  have HCX := hid (RBox.grown (RBox.alloc (RBox.alloc HCW.out _) _) hg (fun k hk => Nat.lt_of_lt_of_le (Nat.lt_of_succ_lt hzb) (HLT.out k hk).1))
                  have HG := hid hg
                  have HGB := HLT2
                  have HRX := hid (Rows2.first (Rows2.alloc (Rows2.alloc HRW.out _) _) ho hg hv)
                  clear ho hg hv
                  obtain ⟨m0, m1, _, _⟩ := HBX.out.facts
                  have m2 := fun c => (RBox.alloc HBX.out c).facts.1
                  have m3 := fun c => (RBox.alloc HBX.out c).facts.2.1
                  refine hK.out _ _ hS7 (fun hHeld => ?_)
                  clear hK K
                  refine wpAnyH_ready (rs := [7]) (by kernel_rfl) (by simp) ?_
                  refine AllReadyH.cons rfl (fun K hK => ?_) AllReadyH.nil
                  go_simp
                  refine hK.out _ _ hHeld (fun hHeld => ?_)
                  clear hK K
                  try simp only [Act.put, List.setIfInBounds_toArray, List.set_cons_zero, List.set_cons_succ]
                  refine take_at (i := 14) 50 (v := ?_) rfl rfl (by kernel_rfl) (by kernel_rfl) (by kernel_rfl) (fun _ _ _ h => h) (Or.inl ⟨by rfl, ?_⟩) (by assumption) ?_
                  case refine_2 => ((intro w hSw); (try dsimp only at hSw); go_simp; (try with_reducible rfl))
                  try simp only [Act.put, List.setIfInBounds_toArray, List.set_cons_zero, List.set_cons_succ]
                  refine wpAnyH_ready (rs := [13]) (by kernel_rfl) (by simp) ?_
                  refine AllReadyH.cons rfl (fun K hK => ?_) AllReadyH.nil
                  refine step_append_fl rfl (.tmp 43) (.tmp 48) (by rfl) W1.heap.size vb ks.length (fls (ks.map Prod.snd)) (by rfl) HRX.out.ob _ _ y (by rfl) (lit_grown wr.heap.size HG.out (lit_old (lit_at _ _ _ _ (by first | rfl | (simp; done)))) (by first | (simp; done) | (simp; omega)) HGB.out) (by omega) (by first | omega | (simp; omega)) ?_
                  intro v8 w8 ho hg hv
                  obtain ⟨p8, c8, rfl⟩ := slice_own ho
                  have hS7 := One.grown hHeld hg hg2 (fun k hk => Nat.le_trans hzw (HLU.out k hk).1)
                  have hz7 : wr.heap.size ≤ w8.heap.size := Nat.le_trans (by first | omega | (simp; done) | (simp; omega)) hg.size
                  have HBX := hid (RBox.grown HBX.out hg (fun k hk => Nat.lt_of_lt_of_le hzb (HLU.out k hk).1))
                  have HCX := hid (RBox.grown HCX.out hg (fun k hk => Nat.lt_of_lt_of_le (Nat.lt_of_succ_lt hzb) (HLU.out k hk).1))
                  have HG := hid hg
                  have HGB := HLU2
                  have HRX := hid (Rows2.second HRX.out ho hg hv)
                  clear ho hg hv
                  obtain ⟨n0, n1, n2, n3⟩ := HBX.out.facts
                  refine hK.out _ _ hS7 (fun hHeld => ?_)
                  clear hK K
                  refine wpAnyH_ready (rs := [15]) (by kernel_rfl) (by simp) ?_
                  refine AllReadyH.cons rfl (fun K hK => ?_) AllReadyH.nil
                  go_simp
                  refine hK.out _ _ (One.set hHeld hg2 (by omega) _ _) (fun hHeld => ?_)
                  clear hK K
                  try simp only [Act.put]
                  refine take_at (i := 16) 51 (v := ?_) rfl rfl (by kernel_rfl) (by kernel_rfl) (by kernel_rfl) (fun _ _ _ h => h) (Or.inl ⟨by rfl, ?_⟩) (by assumption) ?_
                  case refine_2 => ((intro w hSw); (try dsimp only at hSw); go_simp; (try with_reducible rfl))
                  try simp only [Act.put, List.setIfInBounds_toArray, List.set_cons_zero, List.set_cons_succ]
                  refine wpAnyH_ready (rs := [17]) (by kernel_rfl) (by simp) ?_
                  refine AllReadyH.cons rfl (fun K hK => ?_) AllReadyH.nil
                  go_simp
                  refine hK.out _ _ (One.set hHeld hg2 (by omega) _ _) (fun hHeld => ?_)
                  clear hK K
                  try simp only [Act.put]
                  refine wpAnyH_done (by kernel_rfl) ?_ _
                  go_wp2
                  go_roundw
                  case rel => exact ⟨i + 1, ks ++ [(floatOfInt .f64 t, y)], _, _, by omega, by go_num, HN2, by rw [List.length_append]; simp; omega, HT2, hid (by rw [List.length_append, List.map_append, List.map_append]; exact HRX.out.boxed (w.heap.size + 1) hzb _ _), hid (HCX.out.other (by omega) _ _), hid (HBX.out.put _ _), hid hHeld.2, by simp; omega⟩
                  case measure => simp [RowKit.intOf]; omega
                · go_simp
                  refine hK.out _ _ hHeld (fun hHeld => ?_)
                  clear hK K
                  try simp only [Act.put, List.setIfInBounds_toArray, List.set_cons_zero, List.set_cons_succ]
                  refine wpAnyH_ready (rs := [5]) (by kernel_rfl) (by simp) ?_
                  refine AllReadyH.cons rfl (fun K hK => ?_) AllReadyH.nil
                  refine step_append_fl rfl (.tmp 37) (.tmp 40) (by rfl) W1.heap.size va ks.length (fls (ks.map Prod.fst)) (by rfl) (Rows2.alloc (Rows2.alloc HRW.out _) _).oa _ _ (floatOfInt .f64 t) (by rfl) (lit_at _ _ _ _ (by first | rfl | (simp; done))) (by omega) (by first | omega | (simp; omega)) ?_
                  intro v7 w7 ho hg hv
                  obtain ⟨p7, c7, rfl⟩ := slice_own ho
                  have hS7 := One.grown hHeld hg hg2 (fun k hk => Nat.le_trans hzw (HLT.out k hk).1)
                  have hz7 : wr.heap.size ≤ w7.heap.size := Nat.le_trans (by first | omega | (simp; done) | (simp; omega)) hg.size
                  have HBX := hid (RBox.grown (RBox.alloc (RBox.alloc HBW.out _) _) hg (fun k hk => Nat.lt_of_lt_of_le hzb (HLT.out k hk).1))
                  have HCX := hid (RBox.grown (RBox.alloc (RBox.alloc HCW.out _) _) hg (fun k hk => Nat.lt_of_lt_of_le (Nat.lt_of_succ_lt hzb) (HLT.out k hk).1))
                  have HG := hid hg
                  have HGB := HLT2
                  have HRX := hid (Rows2.first (Rows2.alloc (Rows2.alloc HRW.out _) _) ho hg hv)
                  clear ho hg hv
                  obtain ⟨m0, m1, _, _⟩ := HBX.out.facts
                  have m2 := fun c => (RBox.alloc HBX.out c).facts.1
                  have m3 := fun c => (RBox.alloc HBX.out c).facts.2.1
                  refine hK.out _ _ hS7 (fun hHeld => ?_)
                  clear hK K
                  refine take_at (i := 14) 50 (v := ?_) rfl rfl (by kernel_rfl) (by kernel_rfl) (by kernel_rfl) (fun _ _ _ h => h) (Or.inl ⟨by rfl, ?_⟩) (by assumption) ?_
                  case refine_2 => ((intro w hSw); (try dsimp only at hSw); go_simp; (try with_reducible rfl))
                  try simp only [Act.put, List.setIfInBounds_toArray]
                  refine wpAnyH_ready (rs := [13]) (by kernel_rfl) (by simp) ?_
                  refine AllReadyH.cons rfl (fun K hK => ?_) AllReadyH.nil
                  refine step_append_fl rfl (.tmp 43) (.tmp 48) (by rfl) W1.heap.size vb ks.length (fls (ks.map Prod.snd)) (by rfl) HRX.out.ob _ _ y (by rfl) (lit_grown wr.heap.size HG.out (lit_old (lit_at _ _ _ _ (by first | rfl | (simp; done)))) (by first | (simp; done) | (simp; omega)) HGB.out) (by omega) (by first | omega | (simp; omega)) ?_
                  intro v8 w8 ho hg hv
                  obtain ⟨p8, c8, rfl⟩ := slice_own ho
                  have hS7 := One.grown hHeld hg hg2 (fun k hk => Nat.le_trans hzw (HLU.out k hk).1)
                  have hz7 : wr.heap.size ≤ w8.heap.size := Nat.le_trans (by first | omega | (simp; done) | (simp; omega)) hg.size
                  have HBX := hid (RBox.grown HBX.out hg (fun k hk => Nat.lt_of_lt_of_le hzb (HLU.out k hk).1))
                  have HCX := hid (RBox.grown HCX.out hg (fun k hk => Nat.lt_of_lt_of_le (Nat.lt_of_succ_lt hzb) (HLU.out k hk).1))
                  have HG := hid hg
                  have HGB := HLU2
                  have HRX := hid (Rows2.second HRX.out ho hg hv)
                  clear ho hg hv
                  obtain ⟨n0, n1, n2, n3⟩ := HBX.out.facts
                  refine hK.out _ _ hS7 (fun hHeld => ?_)
                  clear hK K
                  refine wpAnyH_ready (rs := [15]) (by kernel_rfl) (by simp) ?_
                  refine AllReadyH.cons rfl (fun K hK => ?_) AllReadyH.nil
                  go_simp
                  refine hK.out _ _ (One.set hHeld hg2 (by omega) _ _) (fun hHeld => ?_)
                  clear hK K
                  try simp only [Act.put]
                  refine take_at (i := 16) 51 (v := ?_) rfl rfl (by kernel_rfl) (by kernel_rfl) (by kernel_rfl) (fun _ _ _ h => h) (Or.inl ⟨by rfl, ?_⟩) (by assumption) ?_
                  case refine_2 => ((intro w hSw); (try dsimp only at hSw); go_simp; (try with_reducible rfl))
                  try simp only [Act.put, List.setIfInBounds_toArray, List.set_cons_zero, List.set_cons_succ]
                  refine wpAnyH_ready (rs := [17]) (by kernel_rfl) (by simp) ?_
                  refine AllReadyH.cons rfl (fun K hK => ?_) AllReadyH.nil
                  go_simp
                  refine hK.out _ _ (One.set hHeld hg2 (by omega) _ _) (fun hHeld => ?_)
                  clear hK K
                  try simp only [Act.put]
                  refine wpAnyH_done (by kernel_rfl) ?_ _
                  go_wp2
                  go_roundw
                  case rel => exact ⟨i + 1, ks ++ [(floatOfInt .f64 t, y)], _, _, by omega, by go_num, HN2, by rw [List.length_append]; simp; omega, HT2, hid (by rw [List.length_append, List.map_append, List.map_append]; exact HRX.out.boxed (w.heap.size + 1) hzb _ _), hid (HCX.out.other (by omega) _ _), hid (HBX.out.put _ _), hid hHeld.2, by simp; omega⟩
                  case measure => simp [RowKit.intOf]; omega
              · go_simp
                refine hK.out _ _ hHeld (fun hHeld => ?_)
                clear hK K
                try simp only [Act.put, List.setIfInBounds_toArray, List.set_cons_zero, List.set_cons_succ]
                refine wpAnyH_ready (rs := [4]) (by kernel_rfl) (by simp) ?_
                refine AllReadyH.cons rfl (fun K hK => ?_) AllReadyH.nil
                go_simp
                refine hK.out _ _ (One.allocB hHeld _) (fun hHeld => ?_)
                clear hK K
                try simp only [Act.put, List.setIfInBounds_toArray, List.set_cons_zero, List.set_cons_succ]
                refine wpAnyH_ready (rs := [5]) (by kernel_rfl) (by simp) ?_
                refine AllReadyH.cons rfl (fun K hK => ?_) AllReadyH.nil
                refine step_append_fl rfl (.tmp 37) (.tmp 40) (by rfl) W1.heap.size va ks.length (fls (ks.map Prod.fst)) (by rfl) (Rows2.alloc (Rows2.alloc HRW.out _) _).oa _ _ (floatOfInt .f64 t) (by rfl) (lit_at _ _ _ _ (by first | rfl | (simp; done))) (by omega) (by first | omega | (simp; omega)) ?_
                intro v7 w7 ho hg hv
                obtain ⟨p7, c7, rfl⟩ := slice_own ho
                have hS7 := One.grown hHeld hg hg2 (fun k hk => Nat.le_trans hzw (HLT.out k hk).1)
                have hz7 : wr.heap.size ≤ w7.heap.size := Nat.le_trans (by first | omega | (simp; done) | (simp; omega)) hg.size
                have HBX := hid (RBox.grown (RBox.alloc (RBox.alloc HBW.out _) _) hg (fun k hk => Nat.lt_of_lt_of_le hzb (HLT.out k hk).1))
                have HCX := hid (RBox.grown (RBox.alloc (RBox.alloc HCW.out _) _) hg (fun k hk => Nat.lt_of_lt_of_le (Nat.lt_of_succ_lt hzb) (HLT.out k hk).1))
                have HG := hid hg
                have HGB := HLT2
                have HRX := hid (Rows2.first (Rows2.alloc (Rows2.alloc HRW.out _) _) ho hg hv)
                clear ho hg hv
                obtain ⟨m0, m1, _, _⟩ := HBX.out.facts
                have m2 := fun c => (RBox.alloc HBX.out c).facts.1
                have m3 := fun c => (RBox.alloc HBX.out c).facts.2.1
                refine hK.out _ _ hS7 (fun hHeld => ?_)
                clear hK K
                refine take_at (i := 14) 50 (v := ?_) rfl rfl (by kernel_rfl) (by kernel_rfl) (by kernel_rfl) (fun _ _ _ h => h) (Or.inl ⟨by rfl, ?_⟩) (by assumption) ?_
                case refine_2 => ((intro w hSw); (try dsimp only at hSw); go_simp; (try with_reducible rfl))
                try simp only [Act.put, List.setIfInBounds_toArray]
                refine wpAnyH_ready (rs := [13]) (by kernel_rfl) (by simp) ?_
                refine AllReadyH.cons rfl (fun K hK => ?_) AllReadyH.nil
                refine step_append_fl rfl (.tmp 43) (.tmp 48) (by rfl) W1.heap.size vb ks.length (fls (ks.map Prod.snd)) (by rfl) HRX.out.ob _ _ y (by rfl) (lit_grown wr.heap.size HG.out (lit_old (lit_at _ _ _ _ (by first | rfl | (simp; done)))) (by first | (simp; done) | (simp; omega)) HGB.out) (by omega) (by first | omega | (simp; omega)) ?_
                intro v8 w8 ho hg hv
                obtain ⟨p8, c8, rfl⟩ := slice_own ho
                have hS7 := One.grown hHeld hg hg2 (fun k hk => Nat.le_trans hzw (HLU.out k hk).1)
                have hz7 : wr.heap.size ≤ w8.heap.size := Nat.le_trans (by first | omega | (simp; done) | (simp; omega)) hg.size
                have HBX := hid (RBox.grown HBX.out hg (fun k hk => Nat.lt_of_lt_of_le hzb (HLU.out k hk).1))
                have HCX := hid (RBox.grown HCX.out hg (fun k hk => Nat.lt_of_lt_of_le (Nat.lt_of_succ_lt hzb) (HLU.out k hk).1))
                have HG := hid hg
                have HGB := HLU2
                have HRX := hid (Rows2.second HRX.out ho hg hv)
                clear ho hg hv
                obtain ⟨n0, n1, n2, n3⟩ := HBX.out.facts
                refine hK.out _ _ hS7 (fun hHeld => ?_)
                clear hK K
                refine wpAnyH_ready (rs := [15]) (by kernel_rfl) (by simp) ?_
                refine AllReadyH.cons rfl (fun K hK => ?_) AllReadyH.nil
                go_simp
                refine hK.out _ _ (One.set hHeld hg2 (by omega) _ _) (fun hHeld => ?_)
                clear hK K
                try simp only [Act.put]
                refine take_at (i := 16) 51 (v := ?_) rfl rfl (by kernel_rfl) (by kernel_rfl) (by kernel_rfl) (fun _ _ _ h => h) (Or.inl ⟨by rfl, ?_⟩) (by assumption) ?_
                case refine_2 => ((intro w hSw); (try dsimp only at hSw); go_simp; (try with_reducible rfl))
                try simp only [Act.put, List.setIfInBounds_toArray, List.set_cons_zero, List.set_cons_succ]
                refine wpAnyH_ready (rs := [17]) (by kernel_rfl) (by simp) ?_
                refine AllReadyH.cons rfl (fun K hK => ?_) AllReadyH.nil
                go_simp
                refine hK.out _ _ (One.set hHeld hg2 (by omega) _ _) (fun hHeld => ?_)
                clear hK K
                try simp only [Act.put]
                refine wpAnyH_done (by kernel_rfl) ?_ _
                go_wp2
                go_roundw
                case rel => exact ⟨i + 1, ks ++ [(floatOfInt .f64 t, y)], _, _, by omega, by go_num, HN2, by rw [List.length_append]; simp; omega, HT2, hid (by rw [List.length_append, List.map_append, List.map_append]; exact HRX.out.boxed (w.heap.size + 1) hzb _ _), hid (HCX.out.other (by omega) _ _), hid (HBX.out.put _ _), hid hHeld.2, by simp; omega⟩
                case measure => simp [RowKit.intOf]; omega
          · go_simp
            refine hK.out _ _ (One.allocB hHeld _) (fun hHeld => ?_)
            clear hK K
            try simp only [Act.put, List.setIfInBounds_toArray, List.set_cons_zero, List.set_cons_succ]
            refine wpAnyH_ready (rs := [1, 7, 12]) (by kernel_rfl) (by simp) ?_
            refine AllReadyH.cons rfl (fun K hK => ?_) (AllReadyH.cons rfl (fun K hK => ?_) (AllReadyH.cons rfl (fun K hK => ?_) AllReadyH.nil))
            · go_simp
              refine hK.out _ _ hHeld (fun hHeld => ?_)
              clear hK K
              try simp only [Act.put, List.setIfInBounds_toArray, List.set_cons_zero, List.set_cons_succ]
              refine wpAnyH_ready (rs := [5, 7, 12]) (by kernel_rfl) (by simp) ?_
              refine AllReadyH.cons rfl (fun K hK => ?_) (AllReadyH.cons rfl (fun K hK => ?_) (AllReadyH.cons rfl (fun K hK => ?_) AllReadyH.nil))
              · refine step_append_fl rfl (.tmp 37) (.tmp 40) (by rfl) W1.heap.size va ks.length (fls (ks.map Prod.fst)) (by rfl) (Rows2.alloc HRW.out _).oa _ _ (floatOfInt .f64 t) (by rfl) (lit_at _ _ _ _ (by first | rfl | (simp; done))) (by omega) (by first | omega | (simp; omega)) ?_
                intro v7 w7 ho hg hv
                obtain ⟨p7, c7, rfl⟩ := slice_own ho
                have hS7 := One.grown hHeld hg hg2 (fun k hk => Nat.le_trans hzw (HLT.out k hk).1)
                have hz7 : wr.heap.size ≤ w7.heap.size := Nat.le_trans (by first | omega | (simp; done) | (simp; omega)) hg.size
                have HBX := hid (RBox.grown (RBox.alloc HBW.out _) hg (fun k hk => Nat.lt_of_lt_of_le hzb (HLT.out k hk).1))
                have HCX := hid (RBox.grown (RBox.alloc HCW.out _) hg (fun k hk => Nat.lt_of_lt_of_le (Nat.lt_of_succ_lt hzb) (HLT.out k hk).1))
                have HG := hid hg
                have HGB := HLT2
                have HRX := hid (Rows2.first (Rows2.alloc HRW.out _) ho hg hv)
                clear ho hg hv
                obtain ⟨m0, m1, _, _⟩ := HBX.out.facts
                have m2 := fun c => (RBox.alloc HBX.out c).facts.1
                have m3 := fun c => (RBox.alloc HBX.out c).facts.2.1
                refine hK.out _ _ hS7 (fun hHeld => ?_)
                clear hK K
                refine wpAnyH_ready (rs := [7, 12]) (by kernel_rfl) (by simp) ?_
                refine AllReadyH.cons rfl (fun K hK => ?_) (AllReadyH.cons rfl (fun K hK => ?_) AllReadyH.nil)
                · go_simp
                  refine hK.out _ _ hHeld (fun hHeld => ?_)
                  clear hK K
                  try simp only [Act.put, List.setIfInBounds_toArray, List.set_cons_zero, List.set_cons_succ]
                  refine take_at (i := 14) 50 (v := ?_) rfl rfl (by kernel_rfl) (by kernel_rfl) (by kernel_rfl) (fun _ _ _ h => h) (Or.inl ⟨by rfl, ?_⟩) (by assumption) ?_
                  case refine_2 => ((intro w hSw); (try dsimp only at hSw); go_simp; (try with_reducible rfl))
                  try simp only [Act.put, List.setIfInBounds_toArray, List.set_cons_zero, List.set_cons_succ]
                  refine wpAnyH_ready (rs := [12]) (by kernel_rfl) (by simp) ?_
                  refine AllReadyH.cons rfl (fun K hK => ?_) AllReadyH.nil
                  go_simp
                  refine hK.out _ _ (One.allocB hHeld _) (fun hHeld => ?_)
                  clear hK K
                  try simp only [Act.put, List.setIfInBounds_toArray, List.set_cons_zero, List.set_cons_succ]
                  refine wpAnyH_ready (rs := [13]) (by kernel_rfl) (by simp) ?_
                  refine AllReadyH.cons rfl (fun K hK => ?_) AllReadyH.nil
                  refine step_append_fl rfl (.tmp 43) (.tmp 48) (by rfl) W1.heap.size vb ks.length (fls (ks.map Prod.snd)) (by rfl) (Rows2.alloc HRX.out _).ob _ _ y (by rfl) (lit_at _ _ _ _ (by first | rfl | (simp; done))) (by omega) (by first | omega | (simp; omega)) ?_
                  intro v8 w8 ho hg hv
                  obtain ⟨p8, c8, rfl⟩ := slice_own ho
                  have hS7 := One.grown hHeld hg hg2 (fun k hk => Nat.le_trans hzw (HLU.out k hk).1)
                  have hz7 : wr.heap.size ≤ w8.heap.size := Nat.le_trans (by first | omega | (simp; done) | (simp; omega)) hg.size
                  have HBX := hid (RBox.grown (RBox.alloc HBX.out _) hg (fun k hk => Nat.lt_of_lt_of_le hzb (HLU.out k hk).1))
                  have HCX := hid (RBox.grown (RBox.alloc HCX.out _) hg (fun k hk => Nat.lt_of_lt_of_le (Nat.lt_of_succ_lt hzb) (HLU.out k hk).1))
                  have HG := hid hg
                  have HGB := HLU2
                  have HRX := hid (Rows2.second (Rows2.alloc HRX.out _) ho hg hv)
                  clear ho hg hv
                  obtain ⟨n0, n1, n2, n3⟩ := HBX.out.facts
                  refine hK.out _ _ hS7 (fun hHeld => ?_)
                  clear hK K
                  refine wpAnyH_ready (rs := [15]) (by kernel_rfl) (by simp) ?_
                  refine AllReadyH.cons rfl (fun K hK => ?_) AllReadyH.nil
                  go_simp
                  refine hK.out _ _ (One.set hHeld hg2 (by omega) _ _) (fun hHeld => ?_)
                  clear hK K
                  try simp only [Act.put]
                  refine take_at (i := 16) 51 (v := ?_) rfl rfl (by kernel_rfl) (by kernel_rfl) (by kernel_rfl) (fun _ _ _ h => h) (Or.inl ⟨by rfl, ?_⟩) (by assumption) ?_
                  case refine_2 => ((intro w hSw); (try dsimp only at hSw); go_simp; (try with_reducible rfl))
                  try simp only [Act.put, List.setIfInBounds_toArray, List.set_cons_zero, List.set_cons_succ]
                  refine wpAnyH_ready (rs := [17]) (by kernel_rfl) (by simp) ?_
                  refine AllReadyH.cons rfl (fun K hK => ?_) AllReadyH.nil
                  go_simp
                  refine hK.out _ _ (One.set hHeld hg2 (by omega) _ _) (fun hHeld => ?_)
                  clear hK K
                  try simp only [Act.put]
                  refine wpAnyH_done (by kernel_rfl) ?_ _
                  go_wp2
                  go_roundw
                  case rel => exact ⟨i + 1, ks ++ [(floatOfInt .f64 t, y)], _, _, by omega, by go_num, HN2, by rw [List.length_append]; simp; omega, HT2, hid (by rw [List.length_append, List.map_append, List.map_append]; exact HRX.out.boxed (w.heap.size + 1) hzb _ _), hid (HCX.out.other (by omega) _ _), hid (HBX.out.put _ _), hid hHeld.2, by simp; omega⟩
                  case measure => simp [RowKit.intOf]; omega
                · go_simp
                  refine hK.out _ _ (One.allocB hHeld _) (fun hHeld => ?_)
                  clear hK K
                  try simp only [Act.put, List.setIfInBounds_toArray, List.set_cons_zero, List.set_cons_succ]
                  refine wpAnyH_ready (rs := [7]) (by kernel_rfl) (by simp) ?_
                  refine AllReadyH.cons rfl (fun K hK => ?_) AllReadyH.nil
                  go_simp
                  refine hK.out _ _ hHeld (fun hHeld => ?_)
                  clear hK K
                  try simp only [Act.put, List.setIfInBounds_toArray, List.set_cons_zero, List.set_cons_succ]
                  refine take_at (i := 14) 50 (v := ?_) rfl rfl (by kernel_rfl) (by kernel_rfl) (by kernel_rfl) (fun _ _ _ h => h) (Or.inl ⟨by rfl, ?_⟩) (by assumption) ?_
                  case refine_2 => ((intro w hSw); (try dsimp only at hSw); go_simp; (try with_reducible rfl))
                  try simp only [Act.put, List.setIfInBounds_toArray, List.set_cons_zero, List.set_cons_succ]
                  refine wpAnyH_ready (rs := [13]) (by kernel_rfl) (by simp) ?_
                  refine AllReadyH.cons rfl (fun K hK => ?_) AllReadyH.nil
                  refine step_append_fl rfl (.tmp 43) (.tmp 48) (by rfl) W1.heap.size vb ks.length (fls (ks.map Prod.snd)) (by rfl) (Rows2.alloc HRX.out _).ob _ _ y (by rfl) (lit_at _ _ _ _ (by first | rfl | (simp; done))) (by omega) (by first | omega | (simp; omega)) ?_
                  intro v8 w8 ho hg hv
                  obtain ⟨p8, c8, rfl⟩ := slice_own ho
                  have hS7 := One.grown hHeld hg hg2 (fun k hk => Nat.le_trans hzw (HLU.out k hk).1)
                  have hz7 : wr.heap.size ≤ w8.heap.size := Nat.le_trans (by first | omega | (simp; done) | (simp; omega)) hg.size
                  have HBX := hid (RBox.grown (RBox.alloc HBX.out _) hg (fun k hk => Nat.lt_of_lt_of_le hzb (HLU.out k hk).1))
                  have HCX := hid (RBox.grown (RBox.alloc HCX.out _) hg (fun k hk => Nat.lt_of_lt_of_le (Nat.lt_of_succ_lt hzb) (HLU.out k hk).1))
                  have HG := hid hg
                  have HGB := HLU2
                  have HRX := hid (Rows2.second (Rows2.alloc HRX.out _) ho hg hv)
                  clear ho hg hv
                  obtain ⟨n0, n1, n2, n3⟩ := HBX.out.facts
                  refine hK.out _ _ hS7 (fun hHeld => ?_)
                  clear hK K
                  refine wpAnyH_ready (rs := [15]) (by kernel_rfl) (by simp) ?_
                  refine AllReadyH.cons rfl (fun K hK => ?_) AllReadyH.nil
                  go_simp
                  refine hK.out _ _ (One.set hHeld hg2 (by omega) _ _) (fun hHeld => ?_)
                  clear hK K
                  try simp only [Act.put]
                  refine take_at (i := 16) 51 (v := ?_) rfl rfl (by kernel_rfl) (by kernel_rfl) (by kernel_rfl) (fun _ _ _ h => h) (Or.inl ⟨by rfl, ?_⟩) (by assumption) ?_
                  case refine_2 => ((intro w hSw); (try dsimp only at hSw); go_simp; (try with_reducible rfl))
                  try simp only [Act.put, List.setIfInBounds_toArray, List.set_cons_zero, List.set_cons_succ]
                  refine wpAnyH_ready (rs := [17]) (by kernel_rfl) (by simp) ?_
                  refine AllReadyH.cons rfl (fun K hK => ?_) AllReadyH.nil
                  go_simp
                  refine hK.out _ _ (One.set hHeld hg2 (by omega) _ _) (fun hHeld => ?_)
                  clear hK K
                  try simp only [Act.put]
                  refine wpAnyH_done (by kernel_rfl) ?_ _
                  go_wp2
                  go_roundw
                  case rel => exact ⟨i + 1, ks ++ [(floatOfInt .f64 t, y)], _, _, by omega, by go_num, HN2, by rw [List.length_append]; simp; omega, HT2, hid (by rw [List.length_append, List.map_append, List.map_append]; exact HRX.out.boxed (w.heap.size + 1) hzb _ _), hid (HCX.out.other (by omega) _ _), hid (HBX.out.put _ _), hid hHeld.2, by simp; omega⟩
                  case measure => simp [RowKit.intOf]; omega
              · go_simp
                refine hK.out _ _ hHeld (fun hHeld => ?_)
                clear hK K
                try simp only [Act.put, List.setIfInBounds_toArray, List.set_cons_zero, List.set_cons_succ]
                refine wpAnyH_ready (rs := [5, 12]) (by kernel_rfl) (by simp) ?_
                refine AllReadyH.cons rfl (fun K hK => ?_) (AllReadyH.cons rfl (fun K hK => ?_) AllReadyH.nil)
                · refine step_append_fl rfl (.tmp 37) (.tmp 40) (by rfl) W1.heap.size va ks.length (fls (ks.map Prod.fst)) (by rfl) (Rows2.alloc HRW.out _).oa _ _ (floatOfInt .f64 t) (by rfl) (lit_at _ _ _ _ (by first | rfl | (simp; done))) (by omega) (by first | omega | (simp; omega)) ?_
                  intro v7 w7 ho hg hv
                  obtain ⟨p7, c7, rfl⟩ := slice_own ho
                  have hS7 := One.grown hHeld hg hg2 (fun k hk => Nat.le_trans hzw (HLT.out k hk).1)
                  have hz7 : wr.heap.size ≤ w7.heap.size := Nat.le_trans (by first | omega | (simp; done) | (simp; omega)) hg.size
                  have HBX := hid (RBox.grown (RBox.alloc HBW.out _) hg (fun k hk => Nat.lt_of_lt_of_le hzb (HLT.out k hk).1))
                  have HCX := hid (RBox.grown (RBox.alloc HCW.out _) hg (fun k hk => Nat.lt_of_lt_of_le (Nat.lt_of_succ_lt hzb) (HLT.out k hk).1))
                  have HG := hid hg
                  have HGB := HLT2
                  have HRX := hid (Rows2.first (Rows2.alloc HRW.out _) ho hg hv)
                  clear ho hg hv
                  obtain ⟨m0, m1, _, _⟩ := HBX.out.facts
                  have m2 := fun c => (RBox.alloc HBX.out c).facts.1
                  have m3 := fun c => (RBox.alloc HBX.out c).facts.2.1
                  refine hK.out _ _ hS7 (fun hHeld => ?_)
                  clear hK K
                  refine take_at (i := 14) 50 (v := ?_) rfl rfl (by kernel_rfl) (by kernel_rfl) (by kernel_rfl) (fun _ _ _ h => h) (Or.inl ⟨by rfl, ?_⟩) (by assumption) ?_
                  case refine_2 => ((intro w hSw); (try dsimp only at hSw); go_simp; (try with_reducible rfl))
                  try simp only [Act.put, List.setIfInBounds_toArray]
                  refine wpAnyH_ready (rs := [12]) (by kernel_rfl) (by simp) ?_
                  refine AllReadyH.cons rfl (fun K hK => ?_) AllReadyH.nil
                  go_simp
                  refine hK.out _ _ (One.allocB hHeld _) (fun hHeld => ?_)
                  clear hK K
                  try simp only [Act.put, List.setIfInBounds_toArray, List.set_cons_zero, List.set_cons_succ]
                  refine wpAnyH_ready (rs := [13]) (by kernel_rfl) (by simp) ?_
                  refine AllReadyH.cons rfl (fun K hK => ?_) AllReadyH.nil
                  refine step_append_fl rfl (.tmp 43) (.tmp 48) (by rfl) W1.heap.size vb ks.length (fls (ks.map Prod.snd)) (by rfl) (Rows2.alloc HRX.out _).ob _ _ y (by rfl) (lit_at _ _ _ _ (by first | rfl | (simp; done))) (by omega) (by first | omega | (simp; omega)) ?_
                  intro v8 w8 ho hg hv
                  obtain ⟨p8, c8, rfl⟩ := slice_own ho
                  have hS7 := One.grown hHeld hg hg2 (fun k hk => Nat.le_trans hzw (HLU.out k hk).1)
                  have hz7 : wr.heap.size ≤ w8.heap.size := Nat.le_trans (by first | omega | (simp; done) | (simp; omega)) hg.size
                  have HBX := hid (RBox.grown (RBox.alloc HBX.out _) hg (fun k hk => Nat.lt_of_lt_of_le hzb (HLU.out k hk).1))
                  have HCX := hid (RBox.grown (RBox.alloc HCX.out _) hg (fun k hk => Nat.lt_of_lt_of_le (Nat.lt_of_succ_lt hzb) (HLU.out k hk).1))
                  have HG := hid hg
                  have HGB := HLU2
                  have HRX := hid (Rows2.second (Rows2.alloc HRX.out _) ho hg hv)
                  clear ho hg hv
                  obtain ⟨n0, n1, n2, n3⟩ := HBX.out.facts
                  refine hK.out _ _ hS7 (fun hHeld => ?_)
                  clear hK K
                  refine wpAnyH_ready (rs := [15]) (by kernel_rfl) (by simp) ?_
                  refine AllReadyH.cons rfl (fun K hK => ?_) AllReadyH.nil
                  go_simp
                  refine hK.out _ _ (One.set hHeld hg2 (by omega) _ _) (fun hHeld => ?_)
                  clear hK K
                  try simp only [Act.put]
                  refine take_at (i := 16) 51 (v := ?_) rfl rfl (by kernel_rfl) (by kernel_rfl) (by kernel_rfl) (fun _ _ _ h => h) (Or.inl ⟨by rfl, ?_⟩) (by assumption) ?_
                  case refine_2 => ((intro w hSw); (try dsimp only at hSw); go_simp; (try with_reducible rfl))
                  try simp only [Act.put, List.setIfInBounds_toArray, List.set_cons_zero, List.set_cons_succ]
                  refine wpAnyH_ready (rs := [17]) (by kernel_rfl) (by simp) ?_
                  refine AllReadyH.cons rfl (fun K hK => ?_) AllReadyH.nil
                  go_simp
                  refine hK.out _ _ (One.set hHeld hg2 (by omega) _ _) (fun hHeld => ?_)
                  clear hK K
                  try simp only [Act.put]
                  refine wpAnyH_done (by kernel_rfl) ?_ _
                  go_wp2
                  go_roundw
                  case rel => exact ⟨i + 1, ks ++ [(floatOfInt .f64 t, y)], _, _, by omega, by go_num, HN2, by rw [List.length_append]; simp; omega, HT2, hid (by rw [List.length_append, List.map_append, List.map_append]; exact HRX.out.boxed (w.heap.size + 1) hzb _ _), hid (HCX.out.other (by omega) _ _), hid (HBX.out.put _ _), hid hHeld.2, by simp; omega⟩
                  case measure => simp [RowKit.intOf]; omega
                · go_simp
                  refine hK.out _ _ (One.allocB hHeld _) (fun hHeld => ?_)
                  clear hK K
                  try simp only [Act.put, List.setIfInBounds_toArray, List.set_cons_zero, List.set_cons_succ]
                  refine wpAnyH_ready (rs := [5]) (by kernel_rfl) (by simp) ?_
                  refine AllReadyH.cons rfl (fun K hK => ?_) AllReadyH.nil
                  refine step_append_fl rfl (.tmp 37) (.tmp 40) (by rfl) W1.heap.size va ks.length (fls (ks.map Prod.fst)) (by rfl) (Rows2.alloc (Rows2.alloc HRW.out _) _).oa _ _ (floatOfInt .f64 t) (by rfl) (lit_old (lit_at _ _ _ _ (by first | rfl | (simp; done)))) (by omega) (by first | omega | (simp; omega)) ?_
                  intro v7 w7 ho hg hv
                  obtain ⟨p7, c7, rfl⟩ := slice_own ho
                  have hS7 := One.grown hHeld hg hg2 (fun k hk => Nat.le_trans hzw (HLT.out k hk).1)
                  have hz7 : wr.heap.size ≤ w7.heap.size := Nat.le_trans (by first | omega | (simp; done) | (simp; omega)) hg.size
                  have HBX := hid (RBox.grown (RBox.alloc (RBox.alloc HBW.out _) _) hg (fun k hk => Nat.lt_of_lt_of_le hzb (HLT.out k hk).1))
                  have HCX := hid (RBox.grown (RBox.alloc (RBox.alloc HCW.out _) _) hg (fun k hk => Nat.lt_of_lt_of_le (Nat.lt_of_succ_lt hzb) (HLT.out k hk).1))
                  have HG := hid hg
                  have HGB := HLT2
                  have HRX := hid (Rows2.first (Rows2.alloc (Rows2.alloc HRW.out _) _) ho hg hv)
                  clear ho hg hv
                  obtain ⟨m0, m1, _, _⟩ := HBX.out.facts
                  have m2 := fun c => (RBox.alloc HBX.out c).facts.1
                  have m3 := fun c => (RBox.alloc HBX.out c).facts.2.1
                  refine hK.out _ _ hS7 (fun hHeld => ?_)
                  clear hK K
                  refine take_at (i := 14) 50 (v := ?_) rfl rfl (by kernel_rfl) (by kernel_rfl) (by kernel_rfl) (fun _ _ _ h => h) (Or.inl ⟨by rfl, ?_⟩) (by assumption) ?_
                  case refine_2 => ((intro w hSw); (try dsimp only at hSw); go_simp; (try with_reducible rfl))
                  try simp only [Act.put, List.setIfInBounds_toArray]
                  refine wpAnyH_ready (rs := [13]) (by kernel_rfl) (by simp) ?_
                  refine AllReadyH.cons rfl (fun K hK => ?_) AllReadyH.nil
                  refine step_append_fl rfl (.tmp 43) (.tmp 48) (by rfl) W1.heap.size vb ks.length (fls (ks.map Prod.snd)) (by rfl) HRX.out.ob _ _ y (by rfl) (lit_grown wr.heap.size HG.out (lit_at _ _ _ _ (by first | rfl | (simp; done))) (by first | (simp; done) | (simp; omega)) HGB.out) (by omega) (by first | omega | (simp; omega)) ?_
                  intro v8 w8 ho hg hv
                  obtain ⟨p8, c8, rfl⟩ := slice_own ho
                  have hS7 := One.grown hHeld hg hg2 (fun k hk => Nat.le_trans hzw (HLU.out k hk).1)
                  have hz7 : wr.heap.size ≤ w8.heap.size := Nat.le_trans (by first | omega | (simp; done) | (simp; omega)) hg.size
                  have HBX := hid (RBox.grown HBX.out hg (fun k hk => Nat.lt_of_lt_of_le hzb (HLU.out k hk).1))
                  have HCX := hid (RBox.grown HCX.out hg (fun k hk => Nat.lt_of_lt_of_le (Nat.lt_of_succ_lt hzb) (HLU.out k hk).1))
                  have HG := hid hg
                  have HGB := HLU2
                  have HRX := hid (Rows2.second HRX.out ho hg hv)
                  clear ho hg hv
                  obtain ⟨n0, n1, n2, n3⟩ := HBX.out.facts
                  refine hK.out _ _ hS7 (fun hHeld => ?_)
                  clear hK K
                  refine wpAnyH_ready (rs := [15]) (by kernel_rfl) (by simp) ?_
                  refine AllReadyH.cons rfl (fun K hK => ?_) AllReadyH.nil
                  go_simp
                  refine hK.out _ _ (One.set hHeld hg2 (by omega) _ _) (fun hHeld => ?_)
                  clear hK K
                  try simp only [Act.put]
                  refine take_at (i := 16) 51 (v := ?_) rfl rfl (by kernel_rfl) (by kernel_rfl) (by kernel_rfl) (fun _ _ _ h => h) (Or.inl ⟨by rfl, ?_⟩) (by assumption) ?_
                  case refine_2 => ((intro w hSw); (try dsimp only at hSw); go_simp; (try with_reducible rfl))
                  try simp only [Act.put, List.setIfInBounds_toArray, List.set_cons_zero, List.set_cons_succ]
                  refine wpAnyH_ready (rs := [17]) (by kernel_rfl) (by simp) ?_
                  refine AllReadyH.cons rfl (fun K hK => ?_) AllReadyH.nil
                  go_simp
                  refine hK.out _ _ (One.set hHeld hg2 (by omega) _ _) (fun hHeld => ?_)
                  clear hK K
                  try simp only [Act.put]
                  refine wpAnyH_done (by kernel_rfl) ?_ _
                  go_wp2
                  go_roundw
                  case rel => exact ⟨i + 1, ks ++ [(floatOfInt .f64 t, y)], _, _, by omega, by go_num, HN2, by rw [List.length_append]; simp; omega, HT2, hid (by rw [List.length_append, List.map_append, List.map_append]; exact HRX.out.boxed (w.heap.size + 1) hzb _ _), hid (HCX.out.other (by omega) _ _), hid (HBX.out.put _ _), hid hHeld.2, by simp; omega⟩
                  case measure => simp [RowKit.intOf]; omega
              · go_simp
                refine hK.out _ _ (One.allocB hHeld _) (fun hHeld => ?_)
                clear hK K
                try simp only [Act.put, List.setIfInBounds_toArray, List.set_cons_zero, List.set_cons_succ]
                refine wpAnyH_ready (rs := [5, 7]) (by kernel_rfl) (by simp) ?_
                refine AllReadyH.cons rfl (fun K hK => ?_) (AllReadyH.cons rfl (fun K hK => ?_) AllReadyH.nil)
                · refine step_append_fl rfl (.tmp 37) (.tmp 40) (by rfl) W1.heap.size va ks.length (fls (ks.map Prod.fst)) (by rfl) (Rows2.alloc (Rows2.alloc HRW.out _) _).oa _ _ (floatOfInt .f64 t) (by rfl) (lit_old (lit_at _ _ _ _ (by first | rfl | (simp; done)))) (by omega) (by first | omega | (simp; omega)) ?_
                  intro v7 w7 ho hg hv
                  obtain ⟨p7, c7, rfl⟩ := slice_own ho
                  have hS7 := One.grown hHeld hg hg2 (fun k hk => Nat.le_trans hzw (HLT.out k hk).1)
                  have hz7 : wr.heap.size ≤ w7.heap.size := Nat.le_trans (by first | omega | (simp; done) | (simp; omega)) hg.size
                  have HBX := hid (RBox.grown (RBox.alloc (RBox.alloc HBW.out _) _) hg (fun k hk => Nat.lt_of_lt_of_le hzb (HLT.out k hk).1))
                  have HCX := hid (RBox.grown (RBox.alloc (RBox.alloc HCW.out _) _) hg (fun k hk => Nat.lt_of_lt_of_le (Nat.lt_of_succ_lt hzb) (HLT.out k hk).1))
                  have HG := hid hg
                  have HGB := HLT2
                  have HRX := hid (Rows2.first (Rows2.alloc (Rows2.alloc HRW.out _) _) ho hg hv)
                  clear ho hg hv
                  obtain ⟨m0, m1, _, _⟩ := HBX.out.facts
                  have m2 := fun c => (RBox.alloc HBX.out c).facts.1
                  have m3 := fun c => (RBox.alloc HBX.out c).facts.2.1
                  refine hK.out _ _ hS7 (fun hHeld => ?_)
                  clear hK K
                  refine wpAnyH_ready (rs := [7]) (by kernel_rfl) (by simp) ?_
                  refine AllReadyH.cons rfl (fun K hK => ?_) AllReadyH.nil
                  go_simp
                  refine hK.out _ _ hHeld (fun hHeld => ?_)
                  clear hK K
                  try simp only [Act.put, List.setIfInBounds_toArray, List.set_cons_zero, List.set_cons_succ]
                  refine take_at (i := 14) 50 (v := ?_) rfl rfl (by kernel_rfl) (by kernel_rfl) (by kernel_rfl) (fun _ _ _ h => h) (Or.inl ⟨by rfl, ?_⟩) (by assumption) ?_
                  case refine_2 => ((intro w hSw); (try dsimp only at hSw); go_simp; (try with_reducible rfl))
                  try simp only [Act.put, List.setIfInBounds_toArray, List.set_cons_zero, List.set_cons_succ]
                  refine wpAnyH_ready (rs := [13]) (by kernel_rfl) (by simp) ?_
                  refine AllReadyH.cons rfl (fun K hK => ?_) AllReadyH.nil
                  refine step_append_fl rfl (.tmp 43) (.tmp 48) (by rfl) W1.heap.size vb ks.length (fls (ks.map Prod.snd)) (by rfl) HRX.out.ob _ _ y (by rfl) (lit_grown wr.heap.size HG.out (lit_at _ _ _ _ (by first | rfl | (simp; done))) (by first | (simp; done) | (simp; omega)) HGB.out) (by omega) (by first | omega | (simp; omega)) ?_
                  intro v8 w8 ho hg hv
                  obtain ⟨p8, c8, rfl⟩ := slice_own ho
                  have hS7 := One.grown hHeld hg hg2 (fun k hk => Nat.le_trans hzw (HLU.out k hk).1)
                  have hz7 : wr.heap.size ≤ w8.heap.size := Nat.le_trans (by first | omega | (simp; done) | (simp; omega)) hg.size
                  have HBX := hid (RBox.grown HBX.out hg (fun k hk => Nat.lt_of_lt_of_le hzb (HLU.out k hk).1))
                  have HCX := hid (RBox.grown HCX.out hg (fun k hk => Nat.lt_of_lt_of_le (Nat.lt_of_succ_lt hzb) (HLU.out k hk).1))
                  have HG := hid hg
                  have HGB := HLU2
                  have HRX := hid (Rows2.second HRX.out ho hg hv)
                  clear ho hg hv
                  obtain ⟨n0, n1, n2, n3⟩ := HBX.out.facts
                  refine hK.out _ _ hS7 (fun hHeld => ?_)
                  clear hK K
                  refine wpAnyH_ready (rs := [15]) (by kernel_rfl) (by simp) ?_
                  refine AllReadyH.cons rfl (fun K hK => ?_) AllReadyH.nil
                  go_simp
                  refine hK.out _ _ (One.set hHeld hg2 (by omega) _ _) (fun hHeld => ?_)
                  clear hK K
                  try simp only [Act.put]
                  refine take_at (i := 16) 51 (v := ?_) rfl rfl (by kernel_rfl) (by kernel_rfl) (by kernel_rfl) (fun _ _ _ h => h) (Or.inl ⟨by rfl, ?_⟩) (by assumption) ?_
                  case refine_2 => ((intro w hSw); (try dsimp only at hSw); go_simp; (try with_reducible rfl))
                  try simp only [Act.put, List.setIfInBounds_toArray, List.set_cons_zero, List.set_cons_succ]
                  refine wpAnyH_ready (rs := [17]) (by kernel_rfl) (by simp) ?_
                  refine AllReadyH.cons rfl (fun K hK => ?_) AllReadyH.nil
                  go_simp
                  refine hK.out _ _ (One.set hHeld hg2 (by omega) _ _) (fun hHeld => ?_)
                  clear hK K
                  try simp only [Act.put]
                  refine wpAnyH_done (by kernel_rfl) ?_ _
                  go_wp2
                  go_roundw
                  case rel => exact ⟨i + 1, ks ++ [(floatOfInt .f64 t, y)], _, _, by omega, by go_num, HN2, by rw [List.length_append]; simp; omega, HT2, hid (by rw [List.length_append, List.map_append, List.map_append]; exact HRX.out.boxed (w.heap.size + 1) hzb _ _), hid (HCX.out.other (by omega) _ _), hid (HBX.out.put _ _), hid hHeld.2, by simp; omega⟩
                  case measure => simp [RowKit.intOf]; omega
                · go_simp
                  refine hK.out _ _ hHeld (fun hHeld => ?_)
                  clear hK K
                  try simp only [Act.put, List.setIfInBounds_toArray, List.set_cons_zero, List.set_cons_succ]
                  refine wpAnyH_ready (rs := [5]) (by kernel_rfl) (by simp) ?_
                  refine AllReadyH.cons rfl (fun K hK => ?_) AllReadyH.nil
                  refine step_append_fl rfl (.tmp 37) (.tmp 40) (by rfl) W1.heap.size va ks.length (fls (ks.map Prod.fst)) (by rfl) (Rows2.alloc (Rows2.alloc HRW.out _) _).oa _ _ (floatOfInt .f64 t) (by rfl) (lit_old (lit_at _ _ _ _ (by first | rfl | (simp; done)))) (by omega) (by first | omega | (simp; omega)) ?_
                  intro v7 w7 ho hg hv
                  obtain ⟨p7, c7, rfl⟩ := slice_own ho
                  have hS7 := One.grown hHeld hg hg2 (fun k hk => Nat.le_trans hzw (HLT.out k hk).1)
                  have hz7 : wr.heap.size ≤ w7.heap.size := Nat.le_trans (by first | omega | (simp; done) | (simp; omega)) hg.size
                  have HBX := hid (RBox.grown (RBox.alloc (RBox.alloc HBW.out _) _) hg (fun k hk => Nat.lt_of_lt_of_le hzb (HLT.out k hk).1))
                  have HCX := hid (RBox.grown (RBox.alloc (RBox.alloc HCW.out _) _) hg (fun k hk => Nat.lt_of_lt_of_le (Nat.lt_of_succ_lt hzb) (HLT.out k hk).1))
                  have HG := hid hg
                  have HGB := HLT2
                  have HRX := hid (Rows2.first (Rows2.alloc (Rows2.alloc HRW.out _) _) ho hg hv)
                  clear ho hg hv
                  obtain ⟨m0, m1, _, _⟩ := HBX.out.facts
                  have m2 := fun c => (RBox.alloc HBX.out c).facts.1
                  have m3 := fun c => (RBox.alloc HBX.out c).facts.2.1
                  refine hK.out _ _ hS7 (fun hHeld => ?_)
                  clear hK K
                  refine take_at (i := 14) 50 (v := ?_) rfl rfl (by kernel_rfl) (by kernel_rfl) (by kernel_rfl) (fun _ _ _ h => h) (Or.inl ⟨by rfl, ?_⟩) (by assumption) ?_
                  case refine_2 => ((intro w hSw); (try dsimp only at hSw); go_simp; (try with_reducible rfl))
                  try simp only [Act.put, List.setIfInBounds_toArray]
                  refine wpAnyH_ready (rs := [13]) (by kernel_rfl) (by simp) ?_
                  refine AllReadyH.cons rfl (fun K hK => ?_) AllReadyH.nil
                  refine step_append_fl rfl (.tmp 43) (.tmp 48) (by rfl) W1.heap.size vb ks.length (fls (ks.map Prod.snd)) (by rfl) HRX.out.ob _ _ y (by rfl) (lit_grown wr.heap.size HG.out (lit_at _ _ _ _ (by first | rfl | (simp; done))) (by first | (simp; done) | (simp; omega)) HGB.out) (by omega) (by first | omega | (simp; omega)) ?_
                  intro v8 w8 ho hg hv
                  obtain ⟨p8, c8, rfl⟩ := slice_own ho
                  have hS7 := One.grown hHeld hg hg2 (fun k hk => Nat.le_trans hzw (HLU.out k hk).1)
                  have hz7 : wr.heap.size ≤ w8.heap.size := Nat.le_trans (by first | omega | (simp; done) | (simp; omega)) hg.size
                  have HBX := hid (RBox.grown HBX.out hg (fun k hk => Nat.lt_of_lt_of_le hzb (HLU.out k hk).1))
                  have HCX := hid (RBox.grown HCX.out hg (fun k hk => Nat.lt_of_lt_of_le (Nat.lt_of_succ_lt hzb) (HLU.out k hk).1))
                  have HG := hid hg
                  have HGB := HLU2
                  have HRX := hid (Rows2.second HRX.out ho hg hv)
                  clear ho hg hv
                  obtain ⟨n0, n1, n2, n3⟩ := HBX.out.facts
                  refine hK.out _ _ hS7 (fun hHeld => ?_)
                  clear hK K
                  refine wpAnyH_ready (rs := [15]) (by kernel_rfl) (by simp) ?_
                  refine AllReadyH.cons rfl (fun K hK => ?_) AllReadyH.nil
                  go_simp
                  refine hK.out _ _ (One.set hHeld hg2 (by omega) _ _) (fun hHeld => ?_)
                  clear hK K
                  try simp only [Act.put]
                  refine take_at (i := 16) 51 (v := ?_) rfl rfl (by kernel_rfl) (by kernel_rfl) (by kernel_rfl) (fun _ _ _ h => h) (Or.inl ⟨by rfl, ?_⟩) (by assumption) ?_
                  case refine_2 => ((intro w hSw); (try dsimp only at hSw); go_simp; (try with_reducible rfl))
                  try simp only [Act.put, List.setIfInBounds_toArray, List.set_cons_zero, List.set_cons_succ]
                  refine wpAnyH_ready (rs := [17]) (by kernel_rfl) (by simp) ?_
                  refine AllReadyH.cons rfl (fun K hK => ?_) AllReadyH.nil
                  go_simp
                  refine hK.out _ _ (One.set hHeld hg2 (by omega) _ _) (fun hHeld => ?_)
                  clear hK K
                  try simp only [Act.put]
                  refine wpAnyH_done (by kernel_rfl) ?_ _
                  go_wp2
                  go_roundw
                  case rel => exact ⟨i + 1, ks ++ [(floatOfInt .f64 t, y)], _, _, by omega, by go_num, HN2, by rw [List.length_append]; simp; omega, HT2, hid (by rw [List.length_append, List.map_append, List.map_append]; exact HRX.out.boxed (w.heap.size + 1) hzb _ _), hid (HCX.out.other (by omega) _ _), hid (HBX.out.put _ _), hid hHeld.2, by simp; omega⟩
                  case measure => simp [RowKit.intOf]; omega
            · go_simp
              refine hK.out _ _ hHeld (fun hHeld => ?_)
              clear hK K
              try simp only [Act.put, List.setIfInBounds_toArray, List.set_cons_zero, List.set_cons_succ]
              refine wpAnyH_ready (rs := [1, 12]) (by kernel_rfl) (by simp) ?_
              refine AllReadyH.cons rfl (fun K hK => ?_) (AllReadyH.cons rfl (fun K hK => ?_) AllReadyH.nil)
              · go_simp
                refine hK.out _ _ hHeld (fun hHeld => ?_)
                clear hK K
                try simp only [Act.put, List.setIfInBounds_toArray, List.set_cons_zero, List.set_cons_succ]
                refine wpAnyH_ready (rs := [5, 12]) (by kernel_rfl) (by simp) ?_
                refine AllReadyH.cons rfl (fun K hK => ?_) (AllReadyH.cons rfl (fun K hK => ?_) AllReadyH.nil)
                · refine step_append_fl rfl (.tmp 37) (.tmp 40) (by rfl) W1.heap.size va ks.length (fls (ks.map Prod.fst)) (by rfl) (Rows2.alloc HRW.out _).oa _ _ (floatOfInt .f64 t) (by rfl) (lit_at _ _ _ _ (by first | rfl | (simp; done))) (by omega) (by first | omega | (simp; omega)) ?_
                  intro v7 w7 ho hg hv
                  obtain ⟨p7, c7, rfl⟩ := slice_own ho
                  have hS7 := One.grown hHeld hg hg2 (fun k hk => Nat.le_trans hzw (HLT.out k hk).1)
                  have hz7 : wr.heap.size ≤ w7.heap.size := Nat.le_trans (by first | omega | (simp; done) | (simp; omega)) hg.size
                  have HBX := hid (RBox.grown (RBox.alloc HBW.out _) hg (fun k hk => Nat.lt_of_lt_of_le hzb (HLT.out k hk).1))
                  have HCX := hid (RBox.grown (RBox.alloc HCW.out _) hg (fun k hk => Nat.lt_of_lt_of_le (Nat.lt_of_succ_lt hzb) (HLT.out k hk).1))
                  have HG := hid hg
                  have HGB := HLT2
                  have HRX := hid (Rows2.first (Rows2.alloc HRW.out _) ho hg hv)
                  clear ho hg hv
                  obtain ⟨m0, m1, _, _⟩ := HBX.out.facts
                  have m2 := fun c => (RBox.alloc HBX.out c).facts.1
                  have m3 := fun c => (RBox.alloc HBX.out c).facts.2.1
                  refine hK.out _ _ hS7 (fun hHeld => ?_)
                  clear hK K
                  refine take_at (i := 14) 50 (v := ?_) rfl rfl (by kernel_rfl) (by kernel_rfl) (by kernel_rfl) (fun _ _ _ h => h) (Or.inl ⟨by rfl, ?_⟩) (by assumption) ?_
                  case refine_2 => ((intro w hSw); (try dsimp only at hSw); go_simp; (try with_reducible rfl))
                  try simp only [Act.put, List.setIfInBounds_toArray]
                  refine wpAnyH_ready (rs := [12]) (by kernel_rfl) (by simp) ?_
                  refine AllReadyH.cons rfl (fun K hK => ?_) AllReadyH.nil
                  go_simp
                  refine hK.out _ _ (One.allocB hHeld _) (fun hHeld => ?_)
                  clear hK K
                  try simp only [Act.put, List.setIfInBounds_toArray, List.set_cons_zero, List.set_cons_succ]
                  refine wpAnyH_ready (rs := [13]) (by kernel_rfl) (by simp) ?_
                  refine AllReadyH.cons rfl (fun K hK => ?_) AllReadyH.nil
                  refine step_append_fl rfl (.tmp 43) (.tmp 48) (by rfl) W1.heap.size vb ks.length (fls (ks.map Prod.snd)) (by rfl) (Rows2.alloc HRX.out _).ob _ _ y (by rfl) (lit_at _ _ _ _ (by first | rfl | (simp; done))) (by omega) (by first | omega | (simp; omega)) ?_
                  intro v8 w8 ho hg hv
                  obtain ⟨p8, c8, rfl⟩ := slice_own ho
                  have hS7 := One.grown hHeld hg hg2 (fun k hk => Nat.le_trans hzw (HLU.out k hk).1)
                  have hz7 : wr.heap.size ≤ w8.heap.size := Nat.le_trans (by first | omega | (simp; done) | (simp; omega)) hg.size
                  have HBX := hid (RBox.grown (RBox.alloc HBX.out _) hg (fun k hk => Nat.lt_of_lt_of_le hzb (HLU.out k hk).1))
                  have HCX := hid (RBox.grown (RBox.alloc HCX.out _) hg (fun k hk => Nat.lt_of_lt_of_le (Nat.lt_of_succ_lt hzb) (HLU.out k hk).1))
                  have HG := hid hg
                  have HGB := HLU2
                  have HRX := hid (Rows2.second (Rows2.alloc HRX.out _) ho hg hv)
                  clear ho hg hv
                  obtain ⟨n0, n1, n2, n3⟩ := HBX.out.facts
                  refine hK.out _ _ hS7 (fun hHeld => ?_)
                  clear hK K
                  refine wpAnyH_ready (rs := [15]) (by kernel_rfl) (by simp) ?_
                  refine AllReadyH.cons rfl (fun K hK => ?_) AllReadyH.nil
                  go_simp
                  refine hK.out _ _ (One.set hHeld hg2 (by omega) _ _) (fun hHeld => ?_)
                  clear hK K
                  try simp only [Act.put]
                  refine take_at (i := 16) 51 (v := ?_) rfl rfl (by kernel_rfl) (by kernel_rfl) (by kernel_rfl) (fun _ _ _ h => h) (Or.inl ⟨by rfl, ?_⟩) (by assumption) ?_
                  case refine_2 => ((intro w hSw); (try dsimp only at hSw); go_simp; (try with_reducible rfl))
                  try simp only [Act.put, List.setIfInBounds_toArray, List.set_cons_zero, List.set_cons_succ]
                  refine wpAnyH_ready (rs := [17]) (by kernel_rfl) (by simp) ?_
                  refine AllReadyH.cons rfl (fun K hK => ?_) AllReadyH.nil
                  go_simp
                  refine hK.out _ _ (One.set hHeld hg2 (by omega) _ _) (fun hHeld => ?_)
                  clear hK K
                  try simp only [Act.put]
                  refine wpAnyH_done (by kernel_rfl) ?_ _
                  go_wp2
                  go_roundw
                  case rel => exact ⟨i + 1, ks ++ [(floatOfInt .f64 t, y)], _, _, by omega, by go_num, HN2, by rw [List.length_append]; simp; omega, HT2, hid (by rw [List.length_append, List.map_append, List.map_append]; exact HRX.out.boxed (w.heap.size + 1) hzb _ _), hid (HCX.out.other (by omega) _ _), hid (HBX.out.put _ _), hid hHeld.2, by simp; omega⟩
                  case measure => simp [RowKit.intOf]; omega
                · go_simp
                  refine hK.out _ _ (One.allocB hHeld _) (fun hHeld => ?_)
                  clear hK K
                  try simp only [Act.put, List.setIfInBounds_toArray, List.set_cons_zero, List.set_cons_succ]
                  refine wpAnyH_ready (rs := [5]) (by kernel_rfl) (by simp) ?_
                  refine AllReadyH.cons rfl (fun K hK => ?_) AllReadyH.nil
                  refine step_append_fl rfl (.tmp 37) (.tmp 40) (by rfl) W1.heap.size va ks.length (fls (ks.map Prod.fst)) (by rfl) (Rows2.alloc (Rows2.alloc HRW.out _) _).oa _ _ (floatOfInt .f64 t) (by rfl) (lit_old (lit_at _ _ _ _ (by first | rfl | (simp; done)))) (by omega) (by first | omega | (simp; omega)) ?_
                  intro v7 w7 ho hg hv
                  obtain ⟨p7, c7, rfl⟩ := slice_own ho
                  have hS7 := One.grown hHeld hg hg2 (fun k hk => Nat.le_trans hzw (HLT.out k hk).1)
                  have hz7 : wr.heap.size ≤ w7.heap.size := Nat.le_trans (by first | omega | (simp; done) | (simp; omega)) hg.size
                  have HBX := hid (RBox.grown (RBox.alloc (RBox.alloc HBW.out _) _) hg (fun k hk => Nat.lt_of_lt_of_le hzb (HLT.out k hk).1))
                  have HCX := hid (RBox.grown (RBox.alloc (RBox.alloc HCW.out _) _) hg (fun k hk => Nat.lt_of_lt_of_le (Nat.lt_of_succ_lt hzb) (HLT.out k hk).1))
                  have HG := hid hg
                  have HGB := HLT2
                  have HRX := hid (Rows2.first (Rows2.alloc (Rows2.alloc HRW.out _) _) ho hg hv)
                  clear ho hg hv
                  obtain ⟨m0, m1, _, _⟩ := HBX.out.facts
                  have m2 := fun c => (RBox.alloc HBX.out c).facts.1
                  have m3 := fun c => (RBox.alloc HBX.out c).facts.2.1
                  refine hK.out _ _ hS7 (fun hHeld => ?_)
                  clear hK K
                  refine take_at (i := 14) 50 (v := ?_) rfl rfl (by kernel_rfl) (by kernel_rfl) (by kernel_rfl) (fun _ _ _ h => h) (Or.inl ⟨by rfl, ?_⟩) (by assumption) ?_
                  case refine_2 => ((intro w hSw); (try dsimp only at hSw); go_simp; (try with_reducible rfl))
                  try simp only [Act.put, List.setIfInBounds_toArray]
                  refine wpAnyH_ready (rs := [13]) (by kernel_rfl) (by simp) ?_
                  refine AllReadyH.cons rfl (fun K hK => ?_) AllReadyH.nil
                  refine step_append_fl rfl (.tmp 43) (.tmp 48) (by rfl) W1.heap.size vb ks.length (fls (ks.map Prod.snd)) (by rfl) HRX.out.ob _ _ y (by rfl) (lit_grown wr.heap.size HG.out (lit_at _ _ _ _ (by first | rfl | (simp; done))) (by first | (simp; done) | (simp; omega)) HGB.out) (by omega) (by first | omega | (simp; omega)) ?_
                  intro v8 w8 ho hg hv
                  obtain ⟨p8, c8, rfl⟩ := slice_own ho
                  have hS7 := One.grown hHeld hg hg2 (fun k hk => Nat.le_trans hzw (HLU.out k hk).1)
                  have hz7 : wr.heap.size ≤ w8.heap.size := Nat.le_trans (by first | omega | (simp; done) | (simp; omega)) hg.size
                  have HBX := hid (RBox.grown HBX.out hg (fun k hk => Nat.lt_of_lt_of_le hzb (HLU.out k hk).1))
                  have HCX := hid (RBox.grown HCX.out hg (fun k hk => Nat.lt_of_lt_of_le (Nat.lt_of_succ_lt hzb) (HLU.out k hk).1))
                  have HG := hid hg
                  have HGB := HLU2
                  have HRX := hid (Rows2.second HRX.out ho hg hv)
                  clear ho hg hv
                  obtain ⟨n0, n1, n2, n3⟩ := HBX.out.facts
                  refine hK.out _ _ hS7 (fun hHeld => ?_)
                  clear hK K
                  refine wpAnyH_ready (rs := [15]) (by kernel_rfl) (by simp) ?_
                  refine AllReadyH.cons rfl (fun K hK => ?_) AllReadyH.nil
                  go_simp
                  refine hK.out _ _ (One.set hHeld hg2 (by omega) _ _) (fun hHeld => ?_)
                  clear hK K
                  try simp only [Act.put]
                  refine take_at (i := 16) 51 (v := ?_) rfl rfl (by kernel_rfl) (by kernel_rfl) (by kernel_rfl) (fun _ _ _ h => h) (Or.inl ⟨by rfl, ?_⟩) (by assumption) ?_
                  case refine_2 => ((intro w hSw); (try dsimp only at hSw); go_simp; (try with_reducible rfl))
                  try simp only [Act.put, List.setIfInBounds_toArray, List.set_cons_zero, List.set_cons_succ]
                  refine wpAnyH_ready (rs := [17]) (by kernel_rfl) (by simp) ?_
                  refine AllReadyH.cons rfl (fun K hK => ?_) AllReadyH.nil
                  go_simp
                  refine hK.out _ _ (One.set hHeld hg2 (by omega) _ _) (fun hHeld => ?_)
                  clear hK K
                  try simp only [Act.put]
                  refine wpAnyH_done (by kernel_rfl) ?_ _
                  go_wp2
                  go_roundw
                  case rel => exact ⟨i + 1, ks ++ [(floatOfInt .f64 t, y)], _, _, by omega, by go_num, HN2, by rw [List.length_append]; simp; omega, HT2, hid (by rw [List.length_append, List.map_append, List.map_append]; exact HRX.out.boxed (w.heap.size + 1) hzb _ _), hid (HCX.out.other (by omega) _ _), hid (HBX.out.put _ _), hid hHeld.2, by simp; omega⟩
                  case measure => simp [RowKit.intOf]; omega
              · go_simp
                refine hK.out _ _ (One.allocB hHeld _) (fun hHeld => ?_)
                clear hK K
                try simp only [Act.put, List.setIfInBounds_toArray, List.set_cons_zero, List.set_cons_succ]
                refine wpAnyH_ready (rs := [1]) (by kernel_rfl) (by simp) ?_
                refine AllReadyH.cons rfl (fun K hK => ?_) AllReadyH.nil
                go_simp
                refine hK.out _ _ hHeld (fun hHeld => ?_)
                clear hK K
                try simp only [Act.put, List.setIfInBounds_toArray, List.set_cons_zero, List.set_cons_succ]
                refine wpAnyH_ready (rs := [5]) (by kernel_rfl) (by simp) ?_
                refine AllReadyH.cons rfl (fun K hK => ?_) AllReadyH.nil
                refine step_append_fl rfl (.tmp 37) (.tmp 40) (by rfl) W1.heap.size va ks.length (fls (ks.map Prod.fst)) (by rfl) (Rows2.alloc (Rows2.alloc HRW.out _) _).oa _ _ (floatOfInt .f64 t) (by rfl) (lit_old (lit_at _ _ _ _ (by first | rfl | (simp; done)))) (by omega) (by first | omega | (simp; omega)) ?_
                intro v7 w7 ho hg hv
                obtain ⟨p7, c7, rfl⟩ := slice_own ho
                have hS7 := One.grown hHeld hg hg2 (fun k hk => Nat.le_trans hzw (HLT.out k hk).1)
                have hz7 : wr.heap.size ≤ w7.heap.size := Nat.le_trans (by first | omega | (simp; done) | (simp; omega)) hg.size
                have HBX := hid (RBox.grown (RBox.alloc (RBox.alloc HBW.out _) _) hg (fun k hk => Nat.lt_of_lt_of_le hzb (HLT.out k hk).1))
                have HCX := hid (RBox.grown (RBox.alloc (RBox.alloc HCW.out _) _) hg (fun k hk => Nat.lt_of_lt_of_le (Nat.lt_of_succ_lt hzb) (HLT.out k hk).1))
                have HG := hid hg
                have HGB := HLT2
                have HRX := hid (Rows2.first (Rows2.alloc (Rows2.alloc HRW.out _) _) ho hg hv)
                clear ho hg hv
                obtain ⟨m0, m1, _, _⟩ := HBX.out.facts
                have m2 := fun c => (RBox.alloc HBX.out c).facts.1
                have m3 := fun c => (RBox.alloc HBX.out c).facts.2.1
                refine hK.out _ _ hS7 (fun hHeld => ?_)
                clear hK K
                refine take_at (i := 14) 50 (v := ?_) rfl rfl (by kernel_rfl) (by kernel_rfl) (by kernel_rfl) (fun _ _ _ h => h) (Or.inl ⟨by rfl, ?_⟩) (by assumption) ?_
                case refine_2 => ((intro w hSw); (try dsimp only at hSw); go_simp; (try with_reducible rfl))
                try simp only [Act.put, List.setIfInBounds_toArray]
                refine wpAnyH_ready (rs := [13]) (by kernel_rfl) (by simp) ?_
                refine AllReadyH.cons rfl (fun K hK => ?_) AllReadyH.nil
                refine step_append_fl rfl (.tmp 43) (.tmp 48) (by rfl) W1.heap.size vb ks.length (fls (ks.map Prod.snd)) (by rfl) HRX.out.ob _ _ y (by rfl) (lit_grown wr.heap.size HG.out (lit_at _ _ _ _ (by first | rfl | (simp; done))) (by first | (simp; done) | (simp; omega)) HGB.out) (by omega) (by first | omega | (simp; omega)) ?_
                intro v8 w8 ho hg hv
                obtain ⟨p8, c8, rfl⟩ := slice_own ho
                have hS7 := One.grown hHeld hg hg2 (fun k hk => Nat.le_trans hzw (HLU.out k hk).1)
                have hz7 : wr.heap.size ≤ w8.heap.size := Nat.le_trans (by first | omega | (simp; done) | (simp; omega)) hg.size
                have HBX := hid (RBox.grown HBX.out hg (fun k hk => Nat.lt_of_lt_of_le hzb (HLU.out k hk).1))
                have HCX := hid (RBox.grown HCX.out hg (fun k hk => Nat.lt_of_lt_of_le (Nat.lt_of_succ_lt hzb) (HLU.out k hk).1))
                have HG := hid hg
                have HGB := HLU2
                have HRX := hid (Rows2.second HRX.out ho hg hv)
                clear ho hg hv
                obtain ⟨n0, n1, n2, n3⟩ := HBX.out.facts
                refine hK.out _ _ hS7 (fun hHeld => ?_)
                clear hK K
                refine wpAnyH_ready (rs := [15]) (by kernel_rfl) (by simp) ?_
                refine AllReadyH.cons rfl (fun K hK => ?_) AllReadyH.nil
                go_simp
                refine hK.out _ _ (One.set hHeld hg2 (by omega) _ _) (fun hHeld => ?_)
                clear hK K
                try simp only [Act.put]
                refine take_at (i := 16) 51 (v := ?_) rfl rfl (by kernel_rfl) (by kernel_rfl) (by kernel_rfl) (fun _ _ _ h => h) (Or.inl ⟨by rfl, ?_⟩) (by assumption) ?_
                case refine_2 => ((intro w hSw); (try dsimp only at hSw); go_simp; (try with_reducible rfl))
                try simp only [Act.put, List.setIfInBounds_toArray, List.set_cons_zero, List.set_cons_succ]
                refine wpAnyH_ready (rs := [17]) (by kernel_rfl) (by simp) ?_
                refine AllReadyH.cons rfl (fun K hK => ?_) AllReadyH.nil
                go_simp
                refine hK.out _ _ (One.set hHeld hg2 (by omega) _ _) (fun hHeld => ?_)
                clear hK K
                try simp only [Act.put]
                refine wpAnyH_done (by kernel_rfl) ?_ _
                go_wp2
                go_roundw
                case rel => exact ⟨i + 1, ks ++ [(floatOfInt .f64 t, y)], _, _, by omega, by go_num, HN2, by rw [List.length_append]; simp; omega, HT2, hid (by rw [List.length_append, List.map_append, List.map_append]; exact HRX.out.boxed (w.heap.size + 1) hzb _ _), hid (HCX.out.other (by omega) _ _), hid (HBX.out.put _ _), hid hHeld.2, by simp; omega⟩
                case measure => simp [RowKit.intOf]; omega
            · go_simp
              refine hK.out _ _ (One.allocB hHeld _) (fun hHeld => ?_)
              clear hK K
              try simp only [Act.put, List.setIfInBounds_toArray, List.set_cons_zero, List.set_cons_succ]
              refine wpAnyH_ready (rs := [1, 7]) (by kernel_rfl) (by simp) ?_
              refine AllReadyH.cons rfl (fun K hK => ?_) (AllReadyH.cons rfl (fun K hK => ?_) AllReadyH.nil)
              · go_simp
                refine hK.out _ _ hHeld (fun hHeld => ?_)
                clear hK K
                try simp only [Act.put, List.setIfInBounds_toArray, List.set_cons_zero, List.set_cons_succ]
                refine wpAnyH_ready (rs := [5, 7]) (by kernel_rfl) (by simp) ?_
                refine AllReadyH.cons rfl (fun K hK => ?_) (AllReadyH.cons rfl (fun K hK => ?_) AllReadyH.nil)
                · refine step_append_fl rfl (.tmp 37) (.tmp 40) (by rfl) W1.heap.size va ks.length (fls (ks.map Prod.fst)) (by rfl) (Rows2.alloc (Rows2.alloc HRW.out _) _).oa _ _ (floatOfInt .f64 t) (by rfl) (lit_old (lit_at _ _ _ _ (by first | rfl | (simp; done)))) (by omega) (by first | omega | (simp; omega)) ?_
                  intro v7 w7 ho hg hv
                  obtain ⟨p7, c7, rfl⟩ := slice_own ho
                  have hS7 := One.grown hHeld hg hg2 (fun k hk => Nat.le_trans hzw (HLT.out k hk).1)
                  have hz7 : wr.heap.size ≤ w7.heap.size := Nat.le_trans (by first | omega | (simp; done) | (simp; omega)) hg.size
                  have HBX := hid (RBox.grown (RBox.alloc (RBox.alloc HBW.out _) _) hg (fun k hk => Nat.lt_of_lt_of_le hzb (HLT.out k hk).1))
                  have HCX := hid (RBox.grown (RBox.alloc (RBox.alloc HCW.out _) _) hg (fun k hk => Nat.lt_of_lt_of_le (Nat.lt_of_succ_lt hzb) (HLT.out k hk).1))
                  have HG := hid hg
                  have HGB := HLT2
                  have HRX := hid (Rows2.first (Rows2.alloc (Rows2.alloc HRW.out _) _) ho hg hv)
                  clear ho hg hv
                  obtain ⟨m0, m1, _, _⟩ := HBX.out.facts
                  have m2 := fun c => (RBox.alloc HBX.out c).facts.1
                  have m3 := fun c => (RBox.alloc HBX.out c).facts.2.1
                  refine hK.out _ _ hS7 (fun hHeld => ?_)
                  clear hK K
                  refine wpAnyH_ready (rs := [7]) (by kernel_rfl) (by simp) ?_
                  refine AllReadyH.cons rfl (fun K hK => ?_) AllReadyH.nil
                  go_simp
                  refine hK.out _ _ hHeld (fun hHeld => ?_)
                  clear hK K
                  try simp only [Act.put, List.setIfInBounds_toArray, List.set_cons_zero, List.set_cons_succ]
                  refine take_at (i := 14) 50 (v := ?_) rfl rfl (by kernel_rfl) (by kernel_rfl) (by kernel_rfl) (fun _ _ _ h => h) (Or.inl ⟨by rfl, ?_⟩) (by assumption) ?_
                  case refine_2 => ((intro w hSw); (try dsimp only at hSw); go_simp; (try with_reducible rfl))
                  try simp only [Act.put, List.setIfInBounds_toArray, List.set_cons_zero, List.set_cons_succ]
                  refine wpAnyH_ready (rs := [13]) (by kernel_rfl) (by simp) ?_
                  refine AllReadyH.cons rfl (fun K hK => ?_) AllReadyH.nil
                  refine step_append_fl rfl (.tmp 43) (.tmp 48) (by rfl) W1.heap.size vb ks.length (fls (ks.map Prod.snd)) (by rfl) HRX.out.ob _ _ y (by rfl) (lit_grown wr.heap.size HG.out (lit_at _ _ _ _ (by first | rfl | (simp; done))) (by first | (simp; done) | (simp; omega)) HGB.out) (by omega) (by first | omega | (simp; omega)) ?_
                  intro v8 w8 ho hg hv
                  obtain ⟨p8, c8, rfl⟩ := slice_own ho
                  have hS7 := One.grown hHeld hg hg2 (fun k hk => Nat.le_trans hzw (HLU.out k hk).1)
                  have hz7 : wr.heap.size ≤ w8.heap.size := Nat.le_trans (by first | omega | (simp; done) | (simp; omega)) hg.size
                  have HBX := hid (RBox.grown HBX.out hg (fun k hk => Nat.lt_of_lt_of_le hzb (HLU.out k hk).1))
                  have HCX := hid (RBox.grown HCX.out hg (fun k hk => Nat.lt_of_lt_of_le (Nat.lt_of_succ_lt hzb) (HLU.out k hk).1))
                  have HG := hid hg
                  have HGB := HLU2
                  have HRX := hid (Rows2.second HRX.out ho hg hv)
                  clear ho hg hv
                  obtain ⟨n0, n1, n2, n3⟩ := HBX.out.facts
                  refine hK.out _ _ hS7 (fun hHeld => ?_)
                  clear hK K
                  refine wpAnyH_ready (rs := [15]) (by kernel_rfl) (by simp) ?_
                  refine AllReadyH.cons rfl (fun K hK => ?_) AllReadyH.nil
                  go_simp
                  refine hK.out _ _ (One.set hHeld hg2 (by omega) _ _) (fun hHeld => ?_)
                  clear hK K
                  try simp only [Act.put]
                  refine take_at (i := 16) 51 (v := ?_) rfl rfl (by kernel_rfl) (by kernel_rfl) (by kernel_rfl) (fun _ _ _ h => h) (Or.inl ⟨by rfl, ?_⟩) (by assumption) ?_
                  case refine_2 => ((intro w hSw); (try dsimp only at hSw); go_simp; (try with_reducible rfl))
                  try simp only [Act.put, List.setIfInBounds_toArray, List.set_cons_zero, List.set_cons_succ]
                  refine wpAnyH_ready (rs := [17]) (by kernel_rfl) (by simp) ?_
                  refine AllReadyH.cons rfl (fun K hK => ?_) AllReadyH.nil
                  go_simp
                  refine hK.out _ _ (One.set hHeld hg2 (by omega) _ _) (fun hHeld => ?_)
                  clear hK K
                  try simp only [Act.put]
                  refine wpAnyH_done (by kernel_rfl) ?_ _
                  go_wp2
                  go_roundw
                  case rel => exact ⟨i + 1, ks ++ [(floatOfInt .f64 t, y)], _, _, by omega, by go_num, HN2, by rw [List.length_append]; simp; omega, HT2, hid (by rw [List.length_append, List.map_append, List.map_append]; exact HRX.out.boxed (w.heap.size + 1) hzb _ _), hid (HCX.out.other (by omega) _ _), hid (HBX.out.put _ _), hid hHeld.2, by simp; omega⟩
                  case measure => simp [RowKit.intOf]; omega
                · go_simp
                  refine hK.out _ _ hHeld (fun hHeld => ?_)
                  clear hK K
                  try simp only [Act.put, List.setIfInBounds_toArray, List.set_cons_zero, List.set_cons_succ]
                  refine wpAnyH_ready (rs := [5]) (by kernel_rfl) (by simp) ?_
                  refine AllReadyH.cons rfl (fun K hK => ?_) AllReadyH.nil
                  refine step_append_fl rfl (.tmp 37) (.tmp 40) (by rfl) W1.heap.size va ks.length (fls (ks.map Prod.fst)) (by rfl) (Rows2.alloc (Rows2.alloc HRW.out _) _).oa _ _ (floatOfInt .f64 t) (by rfl) (lit_old (lit_at _ _ _ _ (by first | rfl | (simp; done)))) (by omega) (by first | omega | (simp; omega)) ?_
                  intro v7 w7 ho hg hv
                  obtain ⟨p7, c7, rfl⟩ := slice_own ho
                  have hS7 := One.grown hHeld hg hg2 (fun k hk => Nat.le_trans hzw (HLT.out k hk).1)
                  have hz7 : wr.heap.size ≤ w7.heap.size := Nat.le_trans (by first | omega | (simp; done) | (simp; omega)) hg.size
                  have HBX := hid (RBox.grown (RBox.alloc (RBox.alloc HBW.out _) _) hg (fun k hk => Nat.lt_of_lt_of_le hzb (HLT.out k hk).1))
                  have HCX := hid (RBox.grown (RBox.alloc (RBox.alloc HCW.out _) _) hg (fun k hk => Nat.lt_of_lt_of_le (Nat.lt_of_succ_lt hzb) (HLT.out k hk).1))
                  have HG := hid hg
                  have HGB := HLT2
                  have HRX := hid (Rows2.first (Rows2.alloc (Rows2.alloc HRW.out _) _) ho hg hv)
                  clear ho hg hv
                  obtain ⟨m0, m1, _, _⟩ := HBX.out.facts
                  have m2 := fun c => (RBox.alloc HBX.out c).facts.1
                  have m3 := fun c => (RBox.alloc HBX.out c).facts.2.1
                  refine hK.out _ _ hS7 (fun hHeld => ?_)
                  clear hK K
                  refine take_at (i := 14) 50 (v := ?_) rfl rfl (by kernel_rfl) (by kernel_rfl) (by kernel_rfl) (fun _ _ _ h => h) (Or.inl ⟨by rfl, ?_⟩) (by assumption) ?_
                  case refine_2 => ((intro w hSw); (try dsimp only at hSw); go_simp; (try with_reducible rfl))
                  try simp only [Act.put, List.setIfInBounds_toArray]
                  refine wpAnyH_ready (rs := [13]) (by kernel_rfl) (by simp) ?_
                  refine AllReadyH.cons rfl (fun K hK => ?_) AllReadyH.nil
                  refine step_append_fl rfl (.tmp 43) (.tmp 48) (by rfl) W1.heap.size vb ks.length (fls (ks.map Prod.snd)) (by rfl) HRX.out.ob _ _ y (by rfl) (lit_grown wr.heap.size HG.out (lit_at _ _ _ _ (by first | rfl | (simp; done))) (by first | (simp; done) | (simp; omega)) HGB.out) (by omega) (by first | omega | (simp; omega)) ?_
                  intro v8 w8 ho hg hv
                  obtain ⟨p8, c8, rfl⟩ := slice_own ho
                  have hS7 := One.grown hHeld hg hg2 (fun k hk => Nat.le_trans hzw (HLU.out k hk).1)
                  have hz7 : wr.heap.size ≤ w8.heap.size := Nat.le_trans (by first | omega | (simp; done) | (simp; omega)) hg.size
                  have HBX := hid (RBox.grown HBX.out hg (fun k hk => Nat.lt_of_lt_of_le hzb (HLU.out k hk).1))
                  have HCX := hid (RBox.grown HCX.out hg (fun k hk => Nat.lt_of_lt_of_le (Nat.lt_of_succ_lt hzb) (HLU.out k hk).1))
                  have HG := hid hg
                  have HGB := HLU2
                  have HRX := hid (Rows2.second HRX.out ho hg hv)
                  clear ho hg hv
                  obtain ⟨n0, n1, n2, n3⟩ := HBX.out.facts
                  refine hK.out _ _ hS7 (fun hHeld => ?_)
                  clear hK K
                  refine wpAnyH_ready (rs := [15]) (by kernel_rfl) (by simp) ?_
                  refine AllReadyH.cons rfl (fun K hK => ?_) AllReadyH.nil
                  go_simp
                  refine hK.out _ _ (One.set hHeld hg2 (by omega) _ _) (fun hHeld => ?_)
                  clear hK K
                  try simp only [Act.put]
                  refine take_at (i := 16) 51 (v := ?_) rfl rfl (by kernel_rfl) (by kernel_rfl) (by kernel_rfl) (fun _ _ _ h => h) (Or.inl ⟨by rfl, ?_⟩) (by assumption) ?_
                  case refine_2 => ((intro w hSw); (try dsimp only at hSw); go_simp; (try with_reducible rfl))
                  try simp only [Act.put, List.setIfInBounds_toArray, List.set_cons_zero, List.set_cons_succ]
                  refine wpAnyH_ready (rs := [17]) (by kernel_rfl) (by simp) ?_
                  refine AllReadyH.cons rfl (fun K hK => ?_) AllReadyH.nil
                  go_simp
                  refine hK.out _ _ (One.set hHeld hg2 (by omega) _ _) (fun hHeld => ?_)
                  clear hK K
                  try simp only [Act.put]
                  refine wpAnyH_done (by kernel_rfl) ?_ _
                  go_wp2
                  go_roundw
                  case rel => exact ⟨i + 1, ks ++ [(floatOfInt .f64 t, y)], _, _, by omega, by go_num, HN2, by rw [List.length_append]; simp; omega, HT2, hid (by rw [List.length_append, List.map_append, List.map_append]; exact HRX.out.boxed (w.heap.size + 1) hzb _ _), hid (HCX.out.other (by omega) _ _), hid (HBX.out.put _ _), hid hHeld.2, by simp; omega⟩
                  case measure => simp [RowKit.intOf]; omega
              · go_simp
                refine hK.out _ _ hHeld (fun hHeld => ?_)
                clear hK K
                try simp only [Act.put, List.setIfInBounds_toArray, List.set_cons_zero, List.set_cons_succ]
                refine wpAnyH_ready (rs := [1]) (by kernel_rfl) (by simp) ?_
                refine AllReadyH.cons rfl (fun K hK => ?_) AllReadyH.nil
                go_simp
                refine hK.out _ _ hHeld (fun hHeld => ?_)
                clear hK K
                try simp only [Act.put, List.setIfInBounds_toArray, List.set_cons_zero, List.set_cons_succ]
                refine wpAnyH_ready (rs := [5]) (by kernel_rfl) (by simp) ?_
                refine AllReadyH.cons rfl (fun K hK => ?_) AllReadyH.nil
                refine step_append_fl rfl (.tmp 37) (.tmp 40) (by rfl) W1.heap.size va ks.length (fls (ks.map Prod.fst)) (by rfl) (Rows2.alloc (Rows2.alloc HRW.out _) _).oa _ _ (floatOfInt .f64 t) (by rfl) (lit_old (lit_at _ _ _ _ (by first | rfl | (simp; done)))) (by omega) (by first | omega | (simp; omega)) ?_
                intro v7 w7 ho hg hv
                obtain ⟨p7, c7, rfl⟩ := slice_own ho
                have hS7 := One.grown hHeld hg hg2 (fun k hk => Nat.le_trans hzw (HLT.out k hk).1)
                have hz7 : wr.heap.size ≤ w7.heap.size := Nat.le_trans (by first | omega | (simp; done) | (simp; omega)) hg.size
                have HBX := hid (RBox.grown (RBox.alloc (RBox.alloc HBW.out _) _) hg (fun k hk => Nat.lt_of_lt_of_le hzb (HLT.out k hk).1))
                have HCX := hid (RBox.grown (RBox.alloc (RBox.alloc HCW.out _) _) hg (fun k hk => Nat.lt_of_lt_of_le (Nat.lt_of_succ_lt hzb) (HLT.out k hk).1))
                have HG := hid hg
                have HGB := HLT2
                have HRX := hid (Rows2.first (Rows2.alloc (Rows2.alloc HRW.out _) _) ho hg hv)
                clear ho hg hv
                obtain ⟨m0, m1, _, _⟩ := HBX.out.facts
                have m2 := fun c => (RBox.alloc HBX.out c).facts.1
                have m3 := fun c => (RBox.alloc HBX.out c).facts.2.1
                refine hK.out _ _ hS7 (fun hHeld => ?_)
                clear hK K
                refine take_at (i := 14) 50 (v := ?_) rfl rfl (by kernel_rfl) (by kernel_rfl) (by kernel_rfl) (fun _ _ _ h => h) (Or.inl ⟨by rfl, ?_⟩) (by assumption) ?_
                case refine_2 => ((intro w hSw); (try dsimp only at hSw); go_simp; (try with_reducible rfl))
                try simp only [Act.put, List.setIfInBounds_toArray]
                refine wpAnyH_ready (rs := [13]) (by kernel_rfl) (by simp) ?_
                refine AllReadyH.cons rfl (fun K hK => ?_) AllReadyH.nil
                refine step_append_fl rfl (.tmp 43) (.tmp 48) (by rfl) W1.heap.size vb ks.length (fls (ks.map Prod.snd)) (by rfl) HRX.out.ob _ _ y (by rfl) (lit_grown wr.heap.size HG.out (lit_at _ _ _ _ (by first | rfl | (simp; done))) (by first | (simp; done) | (simp; omega)) HGB.out) (by omega) (by first | omega | (simp; omega)) ?_
                intro v8 w8 ho hg hv
                obtain ⟨p8, c8, rfl⟩ := slice_own ho
                have hS7 := One.grown hHeld hg hg2 (fun k hk => Nat.le_trans hzw (HLU.out k hk).1)
                have hz7 : wr.heap.size ≤ w8.heap.size := Nat.le_trans (by first | omega | (simp; done) | (simp; omega)) hg.size
                have HBX := hid (RBox.grown HBX.out hg (fun k hk => Nat.lt_of_lt_of_le hzb (HLU.out k hk).1))
                have HCX := hid (RBox.grown HCX.out hg (fun k hk => Nat.lt_of_lt_of_le (Nat.lt_of_succ_lt hzb) (HLU.out k hk).1))
                have HG := hid hg
                have HGB := HLU2
                have HRX := hid (Rows2.second HRX.out ho hg hv)
                clear ho hg hv
                obtain ⟨n0, n1, n2, n3⟩ := HBX.out.facts
                refine hK.out _ _ hS7 (fun hHeld => ?_)
                clear hK K
                refine wpAnyH_ready (rs := [15]) (by kernel_rfl) (by simp) ?_
                refine AllReadyH.cons rfl (fun K hK => ?_) AllReadyH.nil
                go_simp
                refine hK.out _ _ (One.set hHeld hg2 (by omega) _ _) (fun hHeld => ?_)
                clear hK K
                try simp only [Act.put]
                refine take_at (i := 16) 51 (v := ?_) rfl rfl (by kernel_rfl) (by kernel_rfl) (by kernel_rfl) (fun _ _ _ h => h) (Or.inl ⟨by rfl, ?_⟩) (by assumption) ?_
                case refine_2 => ((intro w hSw); (try dsimp only at hSw); go_simp; (try with_reducible rfl))
                try simp only [Act.put, List.setIfInBounds_toArray, List.set_cons_zero, List.set_cons_succ]
                refine wpAnyH_ready (rs := [17]) (by kernel_rfl) (by simp) ?_
                refine AllReadyH.cons rfl (fun K hK => ?_) AllReadyH.nil
                go_simp
                refine hK.out _ _ (One.set hHeld hg2 (by omega) _ _) (fun hHeld => ?_)
                clear hK K
                try simp only [Act.put]
                refine wpAnyH_done (by kernel_rfl) ?_ _
                go_wp2
                go_roundw
                case rel => exact ⟨i + 1, ks ++ [(floatOfInt .f64 t, y)], _, _, by omega, by go_num, HN2, by rw [List.length_append]; simp; omega, HT2, hid (by rw [List.length_append, List.map_append, List.map_append]; exact HRX.out.boxed (w.heap.size + 1) hzb _ _), hid (HCX.out.other (by omega) _ _), hid (HBX.out.put _ _), hid hHeld.2, by simp; omega⟩
                case measure => simp [RowKit.intOf]; omega
          · go_simp
            refine hK.out _ _ hHeld (fun hHeld => ?_)
            clear hK K
            try simp only [Act.put, List.setIfInBounds_toArray, List.set_cons_zero, List.set_cons_succ]
            refine wpAnyH_ready (rs := [1, 4, 12]) (by kernel_rfl) (by simp) ?_
            refine AllReadyH.cons rfl (fun K hK => ?_) (AllReadyH.cons rfl (fun K hK => ?_) (AllReadyH.cons rfl (fun K hK => ?_) AllReadyH.nil))
            · go_simp
              refine hK.out _ _ hHeld (fun hHeld => ?_)
              clear hK K
              try simp only [Act.put, List.setIfInBounds_toArray, List.set_cons_zero, List.set_cons_succ]
              refine wpAnyH_ready (rs := [4, 12]) (by kernel_rfl) (by simp) ?_
              refine AllReadyH.cons rfl (fun K hK => ?_) (AllReadyH.cons rfl (fun K hK => ?_) AllReadyH.nil)
              · go_simp
                refine hK.out _ _ (One.allocB hHeld _) (fun hHeld => ?_)
                clear hK K
                try simp only [Act.put, List.setIfInBounds_toArray, List.set_cons_zero, List.set_cons_succ]
                refine wpAnyH_ready (rs := [5, 12]) (by kernel_rfl) (by simp) ?_
                refine AllReadyH.cons rfl (fun K hK => ?_) (AllReadyH.cons rfl (fun K hK => ?_) AllReadyH.nil)
                · refine step_append_fl rfl (.tmp 37) (.tmp 40) (by rfl) W1.heap.size va ks.length (fls (ks.map Prod.fst)) (by rfl) (Rows2.alloc HRW.out _).oa _ _ (floatOfInt .f64 t) (by rfl) (lit_at _ _ _ _ (by first | rfl | (simp; done))) (by omega) (by first | omega | (simp; omega)) ?_
                  intro v7 w7 ho hg hv
                  obtain ⟨p7, c7, rfl⟩ := slice_own ho
                  have hS7 := One.grown hHeld hg hg2 (fun k hk => Nat.le_trans hzw (HLT.out k hk).1)
                  have hz7 : wr.heap.size ≤ w7.heap.size := Nat.le_trans (by first | omega | (simp; done) | (simp; omega)) hg.size
                  have HBX := hid (RBox.grown (RBox.alloc HBW.out _) hg (fun k hk => Nat.lt_of_lt_of_le hzb (HLT.out k hk).1))
                  have HCX := hid (RBox.grown (RBox.alloc HCW.out _) hg (fun k hk => Nat.lt_of_lt_of_le (Nat.lt_of_succ_lt hzb) (HLT.out k hk).1))
                  have HG := hid hg
                  have HGB := HLT2
                  have HRX := hid (Rows2.first (Rows2.alloc HRW.out _) ho hg hv)
                  clear ho hg hv
                  obtain ⟨m0, m1, _, _⟩ := HBX.out.facts
                  have m2 := fun c => (RBox.alloc HBX.out c).facts.1
                  have m3 := fun c => (RBox.alloc HBX.out c).facts.2.1
                  refine hK.out _ _ hS7 (fun hHeld => ?_)
                  clear hK K
                  refine take_at (i := 14) 50 (v := ?_) rfl rfl (by kernel_rfl) (by kernel_rfl) (by kernel_rfl) (fun _ _ _ h => h) (Or.inl ⟨by rfl, ?_⟩) (by assumption) ?_
                  case refine_2 => ((intro w hSw); (try dsimp only at hSw); go_simp; (try with_reducible rfl))
                  try simp only [Act.put, List.setIfInBounds_toArray]
                  refine wpAnyH_ready (rs := [12]) (by kernel_rfl) (by simp) ?_
                  refine AllReadyH.cons rfl (fun K hK => ?_) AllReadyH.nil
                  go_simp
                  refine hK.out _ _ (One.allocB hHeld _) (fun hHeld => ?_)
                  clear hK K
                  try simp only [Act.put, List.setIfInBounds_toArray, List.set_cons_zero, List.set_cons_succ]
                  refine wpAnyH_ready (rs := [13]) (by kernel_rfl) (by simp) ?_
                  refine AllReadyH.cons rfl (fun K hK => ?_) AllReadyH.nil
                  refine step_append_fl rfl (.tmp 43) (.tmp 48) (by rfl) W1.heap.size vb ks.length (fls (ks.map Prod.snd)) (by rfl) (Rows2.alloc HRX.out _).ob _ _ y (by rfl) (lit_at _ _ _ _ (by first | rfl | (simp; done))) (by omega) (by first | omega | (simp; omega)) ?_
                  intro v8 w8 ho hg hv
                  obtain ⟨p8, c8, rfl⟩ := slice_own ho
                  have hS7 := One.grown hHeld hg hg2 (fun k hk => Nat.le_trans hzw (HLU.out k hk).1)
                  have hz7 : wr.heap.size ≤ w8.heap.size := Nat.le_trans (by first | omega | (simp; done) | (simp; omega)) hg.size
                  have HBX := hid (RBox.grown (RBox.alloc HBX.out _) hg (fun k hk => Nat.lt_of_lt_of_le hzb (HLU.out k hk).1))
                  have HCX := hid (RBox.grown (RBox.alloc HCX.out _) hg (fun k hk => Nat.lt_of_lt_of_le (Nat.lt_of_succ_lt hzb) (HLU.out k hk).1))
                  have HG := hid hg
                  have HGB := HLU2
                  have HRX := hid (Rows2.second (Rows2.alloc HRX.out _) ho hg hv)
                  clear ho hg hv
                  obtain ⟨n0, n1, n2, n3⟩ := HBX.out.facts
                  refine hK.out _ _ hS7 (fun hHeld => ?_)
                  clear hK K
                  refine wpAnyH_ready (rs := [15]) (by kernel_rfl) (by simp) ?_
                  refine AllReadyH.cons rfl (fun K hK => ?_) AllReadyH.nil
                  go_simp
                  refine hK.out _ _ (One.set hHeld hg2 (by omega) _ _) (fun hHeld => ?_)
                  clear hK K
                  try simp only [Act.put]
                  refine take_at (i := 16) 51 (v := ?_) rfl rfl (by kernel_rfl) (by kernel_rfl) (by kernel_rfl) (fun _ _ _ h => h) (Or.inl ⟨by rfl, ?_⟩) (by assumption) ?_
                  case refine_2 => ((intro w hSw); (try dsimp only at hSw); go_simp; (try with_reducible rfl))
                  try simp only [Act.put, List.setIfInBounds_toArray, List.set_cons_zero, List.set_cons_succ]
                  refine wpAnyH_ready (rs := [17]) (by kernel_rfl) (by simp) ?_
                  refine AllReadyH.cons rfl (fun K hK => ?_) AllReadyH.nil
                  go_simp
                  refine hK.out _ _ (One.set hHeld hg2 (by omega) _ _) (fun hHeld => ?_)
                  clear hK K
                  try simp only [Act.put]
                  refine wpAnyH_done (by kernel_rfl) ?_ _
                  go_wp2
                  go_roundw
                  case rel => exact ⟨i + 1, ks ++ [(floatOfInt .f64 t, y)], _, _, by omega, by go_num, HN2, by rw [List.length_append]; simp; omega, HT2, hid (by rw [List.length_append, List.map_append, List.map_append]; exact HRX.out.boxed (w.heap.size + 1) hzb _ _), hid (HCX.out.other (by omega) _ _), hid (HBX.out.put _ _), hid hHeld.2, by simp; omega⟩
                  case measure => simp [RowKit.intOf]; omega
                · go_simp
                  refine hK.out _ _ (One.allocB hHeld _) (fun hHeld => ?_)
                  clear hK K
                  try simp only [Act.put, List.setIfInBounds_toArray, List.set_cons_zero, List.set_cons_succ]
                  refine wpAnyH_ready (rs := [5]) (by kernel_rfl) (by simp) ?_
                  refine AllReadyH.cons rfl (fun K hK => ?_) AllReadyH.nil
                  refine step_append_fl rfl (.tmp 37) (.tmp 40) (by rfl) W1.heap.size va ks.length (fls (ks.map Prod.fst)) (by rfl) (Rows2.alloc (Rows2.alloc HRW.out _) _).oa _ _ (floatOfInt .f64 t) (by rfl) (lit_old (lit_at _ _ _ _ (by first | rfl | (simp; done)))) (by omega) (by first | omega | (simp; omega)) ?_
                  intro v7 w7 ho hg hv
                  obtain ⟨p7, c7, rfl⟩ := slice_own ho
                  have hS7 := One.grown hHeld hg hg2 (fun k hk => Nat.le_trans hzw (HLT.out k hk).1)
                  have hz7 : wr.heap.size ≤ w7.heap.size := Nat.le_trans (by first | omega | (simp; done) | (simp; omega)) hg.size
                  have HBX := hid (RBox.grown (RBox.alloc (RBox.alloc HBW.out _) _) hg (fun k hk => Nat.lt_of_lt_of_le hzb (HLT.out k hk).1))
                  have HCX := hid (RBox.grown (RBox.alloc (RBox.alloc HCW.out _) _) hg (fun k hk => Nat.lt_of_lt_of_le (Nat.lt_of_succ_lt hzb) (HLT.out k hk).1))
                  have HG := hid hg
                  have HGB := HLT2
                  have HRX := hid (Rows2.first (Rows2.alloc (Rows2.alloc HRW.out _) _) ho hg hv)
                  clear ho hg hv
                  obtain ⟨m0, m1, _, _⟩ := HBX.out.facts
                  have m2 := fun c => (RBox.alloc HBX.out c).facts.1
                  have m3 := fun c => (RBox.alloc HBX.out c).facts.2.1
                  refine hK.out _ _ hS7 (fun hHeld => ?_)
                  clear hK K
                  refine take_at (i := 14) 50 (v := ?_) rfl rfl (by kernel_rfl) (by kernel_rfl) (by kernel_rfl) (fun _ _ _ h => h) (Or.inl ⟨by rfl, ?_⟩) (by assumption) ?_
                  case refine_2 => ((intro w hSw); (try dsimp only at hSw); go_simp; (try with_reducible rfl))
                  try simp only [Act.put, List.setIfInBounds_toArray]
                  refine wpAnyH_ready (rs := [13]) (by kernel_rfl) (by simp) ?_
                  refine AllReadyH.cons rfl (fun K hK => ?_) AllReadyH.nil
                  refine step_append_fl rfl (.tmp 43) (.tmp 48) (by rfl) W1.heap.size vb ks.length (fls (ks.map Prod.snd)) (by rfl) HRX.out.ob _ _ y (by rfl) (lit_grown wr.heap.size HG.out (lit_at _ _ _ _ (by first | rfl | (simp; done))) (by first | (simp; done) | (simp; omega)) HGB.out) (by omega) (by first | omega | (simp; omega)) ?_
                  intro v8 w8 ho hg hv
                  obtain ⟨p8, c8, rfl⟩ := slice_own ho
                  have hS7 := One.grown hHeld hg hg2 (fun k hk => Nat.le_trans hzw (HLU.out k hk).1)
                  have hz7 : wr.heap.size ≤ w8.heap.size := Nat.le_trans (by first | omega | (simp; done) | (simp; omega)) hg.size
                  have HBX := hid (RBox.grown HBX.out hg (fun k hk => Nat.lt_of_lt_of_le hzb (HLU.out k hk).1))
                  have HCX := hid (RBox.grown HCX.out hg (fun k hk => Nat.lt_of_lt_of_le (Nat.lt_of_succ_lt hzb) (HLU.out k hk).1))
                  have HG := hid hg
                  have HGB := HLU2
                  have HRX := hid (Rows2.second HRX.out ho hg hv)
                  clear ho hg hv
                  obtain ⟨n0, n1, n2, n3⟩ := HBX.out.facts
                  refine hK.out _ _ hS7 (fun hHeld => ?_)
                  clear hK K
                  refine wpAnyH_ready (rs := [15]) (by kernel_rfl) (by simp) ?_
                  refine AllReadyH.cons rfl (fun K hK => ?_) AllReadyH.nil
                  go_simp
                  refine hK.out _ _ (One.set hHeld hg2 (by omega) _ _) (fun hHeld => ?_)
                  clear hK K
                  try simp only [Act.put]
                  refine take_at (i := 16) 51 (v := ?_) rfl rfl (by kernel_rfl) (by kernel_rfl) (by kernel_rfl) (fun _ _ _ h => h) (Or.inl ⟨by rfl, ?_⟩) (by assumption) ?_
                  case refine_2 => ((intro w hSw); (try dsimp only at hSw); go_simp; (try with_reducible rfl))
                  try simp only [Act.put, List.setIfInBounds_toArray, List.set_cons_zero, List.set_cons_succ]
                  refine wpAnyH_ready (rs := [17]) (by kernel_rfl) (by simp) ?_
                  refine AllReadyH.cons rfl (fun K hK => ?_) AllReadyH.nil
                  go_simp
                  refine hK.out _ _ (One.set hHeld hg2 (by omega) _ _) (fun hHeld => ?_)
                  clear hK K
                  try simp only [Act.put]
                  refine wpAnyH_done (by kernel_rfl) ?_ _
                  go_wp2
                  go_roundw
                  case rel => exact ⟨i + 1, ks ++ [(floatOfInt .f64 t, y)], _, _, by omega, by go_num, HN2, by rw [List.length_append]; simp; omega, HT2, hid (by rw [List.length_append, List.map_append, List.map_append]; exact HRX.out.boxed (w.heap.size + 1) hzb _ _), hid (HCX.out.other (by omega) _ _), hid (HBX.out.put _ _), hid hHeld.2, by simp; omega⟩
                  case measure => simp [RowKit.intOf]; omega
              · go_simp
                refine hK.out _ _ (One.allocB hHeld _) (fun hHeld => ?_)
                clear hK K
                try simp only [Act.put, List.setIfInBounds_toArray, List.set_cons_zero, List.set_cons_succ]
                refine wpAnyH_ready (rs := [4]) (by kernel_rfl) (by simp) ?_
                refine AllReadyH.cons rfl (fun K hK => ?_) AllReadyH.nil
                go_simp
                refine hK.out _ _ (One.allocB hHeld _) (fun hHeld => ?_)
                clear hK K
                try simp only [Act.put, List.setIfInBounds_toArray, List.set_cons_zero, List.set_cons_succ]
                refine wpAnyH_ready (rs := [5]) (by kernel_rfl) (by simp) ?_
                refine AllReadyH.cons rfl (fun K hK => ?_) AllReadyH.nil
                refine step_append_fl rfl (.tmp 37) (.tmp 40) (by rfl) W1.heap.size va ks.length (fls (ks.map Prod.fst)) (by rfl) (Rows2.alloc (Rows2.alloc HRW.out _) _).oa _ _ (floatOfInt .f64 t) (by rfl) (lit_at _ _ _ _ (by first | rfl | (simp; done))) (by omega) (by first | omega | (simp; omega)) ?_
                intro v7 w7 ho hg hv
                obtain ⟨p7, c7, rfl⟩ := slice_own ho
                have hS7 := One.grown hHeld hg hg2 (fun k hk => Nat.le_trans hzw (HLT.out k hk).1)
                have hz7 : wr.heap.size ≤ w7.heap.size := Nat.le_trans (by first | omega | (simp; done) | (simp; omega)) hg.size
                have HBX := hid (RBox.grown (RBox.alloc (RBox.alloc HBW.out _) _) hg (fun k hk => Nat.lt_of_lt_of_le hzb (HLT.out k hk).1))
                have HCX := hid (RBox.grown (RBox.alloc (RBox.alloc HCW.out _) _) hg (fun k hk => Nat.lt_of_lt_of_le (Nat.lt_of_succ_lt hzb) (HLT.out k hk).1))
                have HG := hid hg
                have HGB := HLT2
                have HRX := hid (Rows2.first (Rows2.alloc (Rows2.alloc HRW.out _) _) ho hg hv)
                clear ho hg hv
                obtain ⟨m0, m1, _, _⟩ := HBX.out.facts
                have m2 := fun c => (RBox.alloc HBX.out c).facts.1
                have m3 := fun c => (RBox.alloc HBX.out c).facts.2.1
                refine hK.out _ _ hS7 (fun hHeld => ?_)
                clear hK K
                refine take_at (i := 14) 50 (v := ?_) rfl rfl (by kernel_rfl) (by kernel_rfl) (by kernel_rfl) (fun _ _ _ h => h) (Or.inl ⟨by rfl, ?_⟩) (by assumption) ?_
                case refine_2 => ((intro w hSw); (try dsimp only at hSw); go_simp; (try with_reducible rfl))
                try simp only [Act.put, List.setIfInBounds_toArray]
                refine wpAnyH_ready (rs := [13]) (by kernel_rfl) (by simp) ?_
                refine AllReadyH.cons rfl (fun K hK => ?_) AllReadyH.nil
                refine step_append_fl rfl (.tmp 43) (.tmp 48) (by rfl) W1.heap.size vb ks.length (fls (ks.map Prod.snd)) (by rfl) HRX.out.ob _ _ y (by rfl) (lit_grown wr.heap.size HG.out (lit_old (lit_at _ _ _ _ (by first | rfl | (simp; done)))) (by first | (simp; done) | (simp; omega)) HGB.out) (by omega) (by first | omega | (simp; omega)) ?_
                intro v8 w8 ho hg hv
                obtain ⟨p8, c8, rfl⟩ := slice_own ho
                have hS7 := One.grown hHeld hg hg2 (fun k hk => Nat.le_trans hzw (HLU.out k hk).1)
                have hz7 : wr.heap.size ≤ w8.heap.size := Nat.le_trans (by first | omega | (simp; done) | (simp; omega)) hg.size
                have HBX := hid (RBox.grown HBX.out hg (fun k hk => Nat.lt_of_lt_of_le hzb (HLU.out k hk).1))
                have HCX := hid (RBox.grown HCX.out hg (fun k hk => Nat.lt_of_lt_of_le (Nat.lt_of_succ_lt hzb) (HLU.out k hk).1))
                have HG := hid hg
                have HGB := HLU2
                have HRX := hid (Rows2.second HRX.out ho hg hv)
                clear ho hg hv
                obtain ⟨n0, n1, n2, n3⟩ := HBX.out.facts
                refine hK.out _ _ hS7 (fun hHeld => ?_)
                clear hK K
                refine wpAnyH_ready (rs := [15]) (by kernel_rfl) (by simp) ?_
                refine AllReadyH.cons rfl (fun K hK => ?_) AllReadyH.nil
                go_simp
                refine hK.out _ _ (One.set hHeld hg2 (by omega) _ _) (fun hHeld => ?_)
                clear hK K
                try simp only [Act.put]
                refine take_at (i := 16) 51 (v := ?_) rfl rfl (by kernel_rfl) (by kernel_rfl) (by kernel_rfl) (fun _ _ _ h => h) (Or.inl ⟨by rfl, ?_⟩) (by assumption) ?_
                case refine_2 => ((intro w hSw); (try dsimp only at hSw); go_simp; (try with_reducible rfl))
                try simp only [Act.put, List.setIfInBounds_toArray, List.set_cons_zero, List.set_cons_succ]
                refine wpAnyH_ready (rs := [17]) (by kernel_rfl) (by simp) ?_
                refine AllReadyH.cons rfl (fun K hK => ?_) AllReadyH.nil
                go_simp
                refine hK.out _ _ (One.set hHeld hg2 (by omega) _ _) (fun hHeld => ?_)
                clear hK K
                try simp only [Act.put]
                refine wpAnyH_done (by kernel_rfl) ?_ _
                go_wp2
                go_roundw
                case rel => exact ⟨i + 1, ks ++ [(floatOfInt .f64 t, y)], _, _, by omega, by go_num, HN2, by rw [List.length_append]; simp; omega, HT2, hid (by rw [List.length_append, List.map_append, List.map_append]; exact HRX.out.boxed (w.heap.size + 1) hzb _ _), hid (HCX.out.other (by omega) _ _), hid (HBX.out.put _ _), hid hHeld.2, by simp; omega⟩
                case measure => simp [RowKit.intOf]; omega
            · go_simp
              refine hK.out _ _ (One.allocB hHeld _) (fun hHeld => ?_)
              clear hK K
              try simp only [Act.put, List.setIfInBounds_toArray, List.set_cons_zero, List.set_cons_succ]
              refine wpAnyH_ready (rs := [1, 12]) (by kernel_rfl) (by simp) ?_
              refine AllReadyH.cons rfl (fun K hK => ?_) (AllReadyH.cons rfl (fun K hK => ?_) AllReadyH.nil)
              · go_simp
                refine hK.out _ _ hHeld (fun hHeld => ?_)
                clear hK K
                try simp only [Act.put, List.setIfInBounds_toArray, List.set_cons_zero, List.set_cons_succ]
                refine wpAnyH_ready (rs := [5, 12]) (by kernel_rfl) (by simp) ?_
                refine AllReadyH.cons rfl (fun K hK => ?_) (AllReadyH.cons rfl (fun K hK => ?_) AllReadyH.nil)
                · refine step_append_fl rfl (.tmp 37) (.tmp 40) (by rfl) W1.heap.size va ks.length (fls (ks.map Prod.fst)) (by rfl) (Rows2.alloc HRW.out _).oa _ _ (floatOfInt .f64 t) (by rfl) (lit_at _ _ _ _ (by first | rfl | (simp; done))) (by omega) (by first | omega | (simp; omega)) ?_
                  intro v7 w7 ho hg hv
                  obtain ⟨p7, c7, rfl⟩ := slice_own ho
                  have hS7 := One.grown hHeld hg hg2 (fun k hk => Nat.le_trans hzw (HLT.out k hk).1)
                  have hz7 : wr.heap.size ≤ w7.heap.size := Nat.le_trans (by first | omega | (simp; done) | (simp; omega)) hg.size
                  have HBX := hid (RBox.grown (RBox.alloc HBW.out _) hg (fun k hk => Nat.lt_of_lt_of_le hzb (HLT.out k hk).1))
                  have HCX := hid (RBox.grown (RBox.alloc HCW.out _) hg (fun k hk => Nat.lt_of_lt_of_le (Nat.lt_of_succ_lt hzb) (HLT.out k hk).1))
                  have HG := hid hg
                  have HGB := HLT2
                  have HRX := hid (Rows2.first (Rows2.alloc HRW.out _) ho hg hv)
                  clear ho hg hv
                  obtain ⟨m0, m1, _, _⟩ := HBX.out.facts
                  have m2 := fun c => (RBox.alloc HBX.out c).facts.1
                  have m3 := fun c => (RBox.alloc HBX.out c).facts.2.1
                  refine hK.out _ _ hS7 (fun hHeld => ?_)
                  clear hK K
                  refine take_at (i := 14) 50 (v := ?_) rfl rfl (by kernel_rfl) (by kernel_rfl) (by kernel_rfl) (fun _ _ _ h => h) (Or.inl ⟨by rfl, ?_⟩) (by assumption) ?_
                  case refine_2 => ((intro w hSw); (try dsimp only at hSw); go_simp; (try with_reducible rfl))
                  try simp only [Act.put, List.setIfInBounds_toArray]
                  refine wpAnyH_ready (rs := [12]) (by kernel_rfl) (by simp) ?_
                  refine AllReadyH.cons rfl (fun K hK => ?_) AllReadyH.nil
                  go_simp
                  refine hK.out _ _ (One.allocB hHeld _) (fun hHeld => ?_)
                  clear hK K
                  try simp only [Act.put, List.setIfInBounds_toArray, List.set_cons_zero, List.set_cons_succ]
                  refine wpAnyH_ready (rs := [13]) (by kernel_rfl) (by simp) ?_
                  refine AllReadyH.cons rfl (fun K hK => ?_) AllReadyH.nil
                  refine step_append_fl rfl (.tmp 43) (.tmp 48) (by rfl) W1.heap.size vb ks.length (fls (ks.map Prod.snd)) (by rfl) (Rows2.alloc HRX.out _).ob _ _ y (by rfl) (lit_at _ _ _ _ (by first | rfl | (simp; done))) (by omega) (by first | omega | (simp; omega)) ?_
                  intro v8 w8 ho hg hv
                  obtain ⟨p8, c8, rfl⟩ := slice_own ho
                  have hS7 := One.grown hHeld hg hg2 (fun k hk => Nat.le_trans hzw (HLU.out k hk).1)
                  have hz7 : wr.heap.size ≤ w8.heap.size := Nat.le_trans (by first | omega | (simp; done) | (simp; omega)) hg.size
                  have HBX := hid (RBox.grown (RBox.alloc HBX.out _) hg (fun k hk => Nat.lt_of_lt_of_le hzb (HLU.out k hk).1))
                  have HCX := hid (RBox.grown (RBox.alloc HCX.out _) hg (fun k hk => Nat.lt_of_lt_of_le (Nat.lt_of_succ_lt hzb) (HLU.out k hk).1))
                  have HG := hid hg
                  have HGB := HLU2
                  have HRX := hid (Rows2.second (Rows2.alloc HRX.out _) ho hg hv)
                  clear ho hg hv
                  obtain ⟨n0, n1, n2, n3⟩ := HBX.out.facts
                  refine hK.out _ _ hS7 (fun hHeld => ?_)
                  clear hK K
                  refine wpAnyH_ready (rs := [15]) (by kernel_rfl) (by simp) ?_
                  refine AllReadyH.cons rfl (fun K hK => ?_) AllReadyH.nil
                  go_simp
                  refine hK.out _ _ (One.set hHeld hg2 (by omega) _ _) (fun hHeld => ?_)
                  clear hK K
                  try simp only [Act.put]
                  refine take_at (i := 16) 51 (v := ?_) rfl rfl (by kernel_rfl) (by kernel_rfl) (by kernel_rfl) (fun _ _ _ h => h) (Or.inl ⟨by rfl, ?_⟩) (by assumption) ?_
                  case refine_2 => ((intro w hSw); (try dsimp only at hSw); go_simp; (try with_reducible rfl))
                  try simp only [Act.put, List.setIfInBounds_toArray, List.set_cons_zero, List.set_cons_succ]
                  refine wpAnyH_ready (rs := [17]) (by kernel_rfl) (by simp) ?_
                  refine AllReadyH.cons rfl (fun K hK => ?_) AllReadyH.nil
                  go_simp
                  refine hK.out _ _ (One.set hHeld hg2 (by omega) _ _) (fun hHeld => ?_)
                  clear hK K
                  try simp only [Act.put]
                  refine wpAnyH_done (by kernel_rfl) ?_ _
                  go_wp2
                  go_roundw
                  case rel => exact ⟨i + 1, ks ++ [(floatOfInt .f64 t, y)], _, _, by omega, by go_num, HN2, by rw [List.length_append]; simp; omega, HT2, hid (by rw [List.length_append, List.map_append, List.map_append]; exact HRX.out.boxed (w.heap.size + 1) hzb _ _), hid (HCX.out.other (by omega) _ _), hid (HBX.out.put _ _), hid hHeld.2, by simp; omega⟩
                  case measure => simp [RowKit.intOf]; omega
                · go_simp
                  refine hK.out _ _ (One.allocB hHeld _) (fun hHeld => ?_)
                  clear hK K
                  try simp only [Act.put, List.setIfInBounds_toArray, List.set_cons_zero, List.set_cons_succ]
                  refine wpAnyH_ready (rs := [5]) (by kernel_rfl) (by simp) ?_
                  refine AllReadyH.cons rfl (fun K hK => ?_) AllReadyH.nil
                  refine step_append_fl rfl (.tmp 37) (.tmp 40) (by rfl) W1.heap.size va ks.length (fls (ks.map Prod.fst)) (by rfl) (Rows2.alloc (Rows2.alloc HRW.out _) _).oa _ _ (floatOfInt .f64 t) (by rfl) (lit_old (lit_at _ _ _ _ (by first | rfl | (simp; done)))) (by omega) (by first | omega | (simp; omega)) ?_
                  intro v7 w7 ho hg hv
                  obtain ⟨p7, c7, rfl⟩ := slice_own ho
                  have hS7 := One.grown hHeld hg hg2 (fun k hk => Nat.le_trans hzw (HLT.out k hk).1)
                  have hz7 : wr.heap.size ≤ w7.heap.size := Nat.le_trans (by first | omega | (simp; done) | (simp; omega)) hg.size
                  have HBX := hid (RBox.grown (RBox.alloc (RBox.alloc HBW.out _) _) hg (fun k hk => Nat.lt_of_lt_of_le hzb (HLT.out k hk).1))
                  have HCX := hid (RBox.grown (RBox.alloc (RBox.alloc HCW.out _) _) hg (fun k hk => Nat.lt_of_lt_of_le (Nat.lt_of_succ_lt hzb) (HLT.out k hk).1))
                  have HG := hid hg
                  have HGB := HLT2
                  have HRX := hid (Rows2.first (Rows2.alloc (Rows2.alloc HRW.out _) _) ho hg hv)
                  clear ho hg hv
                  obtain ⟨m0, m1, _, _⟩ := HBX.out.facts
                  have m2 := fun c => (RBox.alloc HBX.out c).facts.1
                  have m3 := fun c => (RBox.alloc HBX.out c).facts.2.1
                  refine hK.out _ _ hS7 (fun hHeld => ?_)
                  clear hK K
                  refine take_at (i := 14) 50 (v := ?_) rfl rfl (by kernel_rfl) (by kernel_rfl) (by kernel_rfl) (fun _ _ _ h => h) (Or.inl ⟨by rfl, ?_⟩) (by assumption) ?_
                  case refine_2 => ((intro w hSw); (try dsimp only at hSw); go_simp; (try with_reducible rfl))
                  try simp only [Act.put, List.setIfInBounds_toArray]
                  refine wpAnyH_ready (rs := [13]) (by kernel_rfl) (by simp) ?_
                  refine AllReadyH.cons rfl (fun K hK => ?_) AllReadyH.nil
                  refine step_append_fl rfl (.tmp 43) (.tmp 48) (by rfl) W1.heap.size vb ks.length (fls (ks.map Prod.snd)) (by rfl) HRX.out.ob _ _ y (by rfl) (lit_grown wr.heap.size HG.out (lit_at _ _ _ _ (by first | rfl | (simp; done))) (by first | (simp; done) | (simp; omega)) HGB.out) (by omega) (by first | omega | (simp; omega)) ?_
                  intro v8 w8 ho hg hv
                  obtain ⟨p8, c8, rfl⟩ := slice_own ho
                  have hS7 := One.grown hHeld hg hg2 (fun k hk => Nat.le_trans hzw (HLU.out k hk).1)
                  have hz7 : wr.heap.size ≤ w8.heap.size := Nat.le_trans (by first | omega | (simp; done) | (simp; omega)) hg.size
                  have HBX := hid (RBox.grown HBX.out hg (fun k hk => Nat.lt_of_lt_of_le hzb (HLU.out k hk).1))
                  have HCX := hid (RBox.grown HCX.out hg (fun k hk => Nat.lt_of_lt_of_le (Nat.lt_of_succ_lt hzb) (HLU.out k hk).1))
                  have HG := hid hg
                  have HGB := HLU2
                  have HRX := hid (Rows2.second HRX.out ho hg hv)
                  clear ho hg hv
                  obtain ⟨n0, n1, n2, n3⟩ := HBX.out.facts
                  refine hK.out _ _ hS7 (fun hHeld => ?_)
                  clear hK K
                  refine wpAnyH_ready (rs := [15]) (by kernel_rfl) (by simp) ?_
                  refine AllReadyH.cons rfl (fun K hK => ?_) AllReadyH.nil
                  go_simp
                  refine hK.out _ _ (One.set hHeld hg2 (by omega) _ _) (fun hHeld => ?_)
                  clear hK K
                  try simp only [Act.put]
                  refine take_at (i := 16) 51 (v := ?_) rfl rfl (by kernel_rfl) (by kernel_rfl) (by kernel_rfl) (fun _ _ _ h => h) (Or.inl ⟨by rfl, ?_⟩) (by assumption) ?_
                  case refine_2 => ((intro w hSw); (try dsimp only at hSw); go_simp; (try with_reducible rfl))
                  try simp only [Act.put, List.setIfInBounds_toArray, List.set_cons_zero, List.set_cons_succ]
                  refine wpAnyH_ready (rs := [17]) (by kernel_rfl) (by simp) ?_
                  refine AllReadyH.cons rfl (fun K hK => ?_) AllReadyH.nil
                  go_simp
                  refine hK.out _ _ (One.set hHeld hg2 (by omega) _ _) (fun hHeld => ?_)
                  clear hK K
                  try simp only [Act.put]
                  refine wpAnyH_done (by kernel_rfl) ?_ _
                  go_wp2
                  go_roundw
                  case rel => exact ⟨i + 1, ks ++ [(floatOfInt .f64 t, y)], _, _, by omega, by go_num, HN2, by rw [List.length_append]; simp; omega, HT2, hid (by rw [List.length_append, List.map_append, List.map_append]; exact HRX.out.boxed (w.heap.size + 1) hzb _ _), hid (HCX.out.other (by omega) _ _), hid (HBX.out.put _ _), hid hHeld.2, by simp; omega⟩
                  case measure => simp [RowKit.intOf]; omega
              · go_simp
                refine hK.out _ _ (One.allocB hHeld _) (fun hHeld => ?_)
                clear hK K
                try simp only [Act.put, List.setIfInBounds_toArray, List.set_cons_zero, List.set_cons_succ]
                refine wpAnyH_ready (rs := [1]) (by kernel_rfl) (by simp) ?_
                refine AllReadyH.cons rfl (fun K hK => ?_) AllReadyH.nil
                go_simp
                refine hK.out _ _ hHeld (fun hHeld => ?_)
                clear hK K
                try simp only [Act.put, List.setIfInBounds_toArray, List.set_cons_zero, List.set_cons_succ]
                refine wpAnyH_ready (rs := [5]) (by kernel_rfl) (by simp) ?_
                refine AllReadyH.cons rfl (fun K hK => ?_) AllReadyH.nil
                refine step_append_fl rfl (.tmp 37) (.tmp 40) (by rfl) W1.heap.size va ks.length (fls (ks.map Prod.fst)) (by rfl) (Rows2.alloc (Rows2.alloc HRW.out _) _).oa _ _ (floatOfInt .f64 t) (by rfl) (lit_old (lit_at _ _ _ _ (by first | rfl | (simp; done)))) (by omega) (by first | omega | (simp; omega)) ?_
                intro v7 w7 ho hg hv
                obtain ⟨p7, c7, rfl⟩ := slice_own ho
                have hS7 := One.grown hHeld hg hg2 (fun k hk => Nat.le_trans hzw (HLT.out k hk).1)
                have hz7 : wr.heap.size ≤ w7.heap.size := Nat.le_trans (by first | omega | (simp; done) | (simp; omega)) hg.size
                have HBX := hid (RBox.grown (RBox.alloc (RBox.alloc HBW.out _) _) hg (fun k hk => Nat.lt_of_lt_of_le hzb (HLT.out k hk).1))
                have HCX := hid (RBox.grown (RBox.alloc (RBox.alloc HCW.out _) _) hg (fun k hk => Nat.lt_of_lt_of_le (Nat.lt_of_succ_lt hzb) (HLT.out k hk).1))
                have HG := hid hg
                have HGB := HLT2
                have HRX := hid (Rows2.first (Rows2.alloc (Rows2.alloc HRW.out _) _) ho hg hv)
                clear ho hg hv
                obtain ⟨m0, m1, _, _⟩ := HBX.out.facts
                have m2 := fun c => (RBox.alloc HBX.out c).facts.1
                have m3 := fun c => (RBox.alloc HBX.out c).facts.2.1
                refine hK.out _ _ hS7 (fun hHeld => ?_)
                clear hK K
                refine take_at (i := 14) 50 (v := ?_) rfl rfl (by kernel_rfl) (by kernel_rfl) (by kernel_rfl) (fun _ _ _ h => h) (Or.inl ⟨by rfl, ?_⟩) (by assumption) ?_
                case refine_2 => ((intro w hSw); (try dsimp only at hSw); go_simp; (try with_reducible rfl))
                try simp only [Act.put, List.setIfInBounds_toArray]
                refine wpAnyH_ready (rs := [13]) (by kernel_rfl) (by simp) ?_
                refine AllReadyH.cons rfl (fun K hK => ?_) AllReadyH.nil
                refine step_append_fl rfl (.tmp 43) (.tmp 48) (by rfl) W1.heap.size vb ks.length (fls (ks.map Prod.snd)) (by rfl) HRX.out.ob _ _ y (by rfl) (lit_grown wr.heap.size HG.out (lit_at _ _ _ _ (by first | rfl | (simp; done))) (by first | (simp; done) | (simp; omega)) HGB.out) (by omega) (by first | omega | (simp; omega)) ?_
                intro v8 w8 ho hg hv
                obtain ⟨p8, c8, rfl⟩ := slice_own ho
                have hS7 := One.grown hHeld hg hg2 (fun k hk => Nat.le_trans hzw (HLU.out k hk).1)
                have hz7 : wr.heap.size ≤ w8.heap.size := Nat.le_trans (by first | omega | (simp; done) | (simp; omega)) hg.size
                have HBX := hid (RBox.grown HBX.out hg (fun k hk => Nat.lt_of_lt_of_le hzb (HLU.out k hk).1))
                have HCX := hid (RBox.grown HCX.out hg (fun k hk => Nat.lt_of_lt_of_le (Nat.lt_of_succ_lt hzb) (HLU.out k hk).1))
                have HG := hid hg
                have HGB := HLU2
                have HRX := hid (Rows2.second HRX.out ho hg hv)
                clear ho hg hv
                obtain ⟨n0, n1, n2, n3⟩ := HBX.out.facts
                refine hK.out _ _ hS7 (fun hHeld => ?_)
                clear hK K
                refine wpAnyH_ready (rs := [15]) (by kernel_rfl) (by simp) ?_
                refine AllReadyH.cons rfl (fun K hK => ?_) AllReadyH.nil
                go_simp
                refine hK.out _ _ (One.set hHeld hg2 (by omega) _ _) (fun hHeld => ?_)
                clear hK K
                try simp only [Act.put]
                refine take_at (i := 16) 51 (v := ?_) rfl rfl (by kernel_rfl) (by kernel_rfl) (by kernel_rfl) (fun _ _ _ h => h) (Or.inl ⟨by rfl, ?_⟩) (by assumption) ?_
                case refine_2 => ((intro w hSw); (try dsimp only at hSw); go_simp; (try with_reducible rfl))
                try simp only [Act.put, List.setIfInBounds_toArray, List.set_cons_zero, List.set_cons_succ]
                refine wpAnyH_ready (rs := [17]) (by kernel_rfl) (by simp) ?_
                refine AllReadyH.cons rfl (fun K hK => ?_) AllReadyH.nil
                go_simp
                refine hK.out _ _ (One.set hHeld hg2 (by omega) _ _) (fun hHeld => ?_)
                clear hK K
                try simp only [Act.put]
                refine wpAnyH_done (by kernel_rfl) ?_ _
                go_wp2
                go_roundw
                case rel => exact ⟨i + 1, ks ++ [(floatOfInt .f64 t, y)], _, _, by omega, by go_num, HN2, by rw [List.length_append]; simp; omega, HT2, hid (by rw [List.length_append, List.map_append, List.map_append]; exact HRX.out.boxed (w.heap.size + 1) hzb _ _), hid (HCX.out.other (by omega) _ _), hid (HBX.out.put _ _), hid hHeld.2, by simp; omega⟩
                case measure => simp [RowKit.intOf]; omega
            · go_simp
              refine hK.out _ _ (One.allocB hHeld _) (fun hHeld => ?_)
              clear hK K
              try simp only [Act.put, List.setIfInBounds_toArray, List.set_cons_zero, List.set_cons_succ]
              refine wpAnyH_ready (rs := [1, 4]) (by kernel_rfl) (by simp) ?_
              refine AllReadyH.cons rfl (fun K hK => ?_) (AllReadyH.cons rfl (fun K hK => ?_) AllReadyH.nil)
              · go_simp
                refine hK.out _ _ hHeld (fun hHeld => ?_)
                clear hK K
                try simp only [Act.put, List.setIfInBounds_toArray, List.set_cons_zero, List.set_cons_succ]
                refine wpAnyH_ready (rs := [4]) (by kernel_rfl) (by simp) ?_
                refine AllReadyH.cons rfl (fun K hK => ?_) AllReadyH.nil
                go_simp
                refine hK.out _ _ (One.allocB hHeld _) (fun hHeld => ?_)
                clear hK K
                try simp only [Act.put, List.setIfInBounds_toArray, List.set_cons_zero, List.set_cons_succ]
                refine wpAnyH_ready (rs := [5]) (by kernel_rfl) (by simp) ?_
                refine AllReadyH.cons rfl (fun K hK => ?_) AllReadyH.nil
                refine step_append_fl rfl (.tmp 37) (.tmp 40) (by rfl) W1.heap.size va ks.length (fls (ks.map Prod.fst)) (by rfl) (Rows2.alloc (Rows2.alloc HRW.out _) _).oa _ _ (floatOfInt .f64 t) (by rfl) (lit_at _ _ _ _ (by first | rfl | (simp; done))) (by omega) (by first | omega | (simp; omega)) ?_
                intro v7 w7 ho hg hv
                obtain ⟨p7, c7, rfl⟩ := slice_own ho
                have hS7 := One.grown hHeld hg hg2 (fun k hk => Nat.le_trans hzw (HLT.out k hk).1)
                have hz7 : wr.heap.size ≤ w7.heap.size := Nat.le_trans (by first | omega | (simp; done) | (simp; omega)) hg.size
                have HBX := hid (RBox.grown (RBox.alloc (RBox.alloc HBW.out _) _) hg (fun k hk => Nat.lt_of_lt_of_le hzb (HLT.out k hk).1))
                have HCX := hid (RBox.grown (RBox.alloc (RBox.alloc HCW.out _) _) hg (fun k hk => Nat.lt_of_lt_of_le (Nat.lt_of_succ_lt hzb) (HLT.out k hk).1))
                have HG := hid hg
                have HGB := HLT2
                have HRX := hid (Rows2.first (Rows2.alloc (Rows2.alloc HRW.out _) _) ho hg hv)
                clear ho hg hv
                obtain ⟨m0, m1, _, _⟩ := HBX.out.facts
                have m2 := fun c => (RBox.alloc HBX.out c).facts.1
                have m3 := fun c => (RBox.alloc HBX.out c).facts.2.1
                refine hK.out _ _ hS7 (fun hHeld => ?_)
                clear hK K
                refine take_at (i := 14) 50 (v := ?_) rfl rfl (by kernel_rfl) (by kernel_rfl) (by kernel_rfl) (fun _ _ _ h => h) (Or.inl ⟨by rfl, ?_⟩) (by assumption) ?_
                case refine_2 => ((intro w hSw); (try dsimp only at hSw); go_simp; (try with_reducible rfl))
                try simp only [Act.put, List.setIfInBounds_toArray]
                refine wpAnyH_ready (rs := [13]) (by kernel_rfl) (by simp) ?_
                refine AllReadyH.cons rfl (fun K hK => ?_) AllReadyH.nil
                refine step_append_fl rfl (.tmp 43) (.tmp 48) (by rfl) W1.heap.size vb ks.length (fls (ks.map Prod.snd)) (by rfl) HRX.out.ob _ _ y (by rfl) (lit_grown wr.heap.size HG.out (lit_old (lit_at _ _ _ _ (by first | rfl | (simp; done)))) (by first | (simp; done) | (simp; omega)) HGB.out) (by omega) (by first | omega | (simp; omega)) ?_
                intro v8 w8 ho hg hv
                obtain ⟨p8, c8, rfl⟩ := slice_own ho
                have hS7 := One.grown hHeld hg hg2 (fun k hk => Nat.le_trans hzw (HLU.out k hk).1)
                have hz7 : wr.heap.size ≤ w8.heap.size := Nat.le_trans (by first | omega | (simp; done) | (simp; omega)) hg.size
                have HBX := hid (RBox.grown HBX.out hg (fun k hk => Nat.lt_of_lt_of_le hzb (HLU.out k hk).1))
                have HCX := hid (RBox.grown HCX.out hg (fun k hk => Nat.lt_of_lt_of_le (Nat.lt_of_succ_lt hzb) (HLU.out k hk).1))
                have HG := hid hg
                have HGB := HLU2
                have HRX := hid (Rows2.second HRX.out ho hg hv)
                clear ho hg hv
                obtain ⟨n0, n1, n2, n3⟩ := HBX.out.facts
                refine hK.out _ _ hS7 (fun hHeld => ?_)
                clear hK K
                refine wpAnyH_ready (rs := [15]) (by kernel_rfl) (by simp) ?_
                refine AllReadyH.cons rfl (fun K hK => ?_) AllReadyH.nil
                go_simp
                refine hK.out _ _ (One.set hHeld hg2 (by omega) _ _) (fun hHeld => ?_)
                clear hK K
                try simp only [Act.put]
                refine take_at (i := 16) 51 (v := ?_) rfl rfl (by kernel_rfl) (by kernel_rfl) (by kernel_rfl) (fun _ _ _ h => h) (Or.inl ⟨by rfl, ?_⟩) (by assumption) ?_
                case refine_2 => ((intro w hSw); (try dsimp only at hSw); go_simp; (try with_reducible rfl))
                try simp only [Act.put, List.setIfInBounds_toArray, List.set_cons_zero, List.set_cons_succ]
                refine wpAnyH_ready (rs := [17]) (by kernel_rfl) (by simp) ?_
                refine AllReadyH.cons rfl (fun K hK => ?_) AllReadyH.nil
                go_simp
                refine hK.out _ _ (One.set hHeld hg2 (by omega) _ _) (fun hHeld => ?_)
                clear hK K
                try simp only [Act.put]
                refine wpAnyH_done (by kernel_rfl) ?_ _
                go_wp2
                go_roundw
                case rel => exact ⟨i + 1, ks ++ [(floatOfInt .f64 t, y)], _, _, by omega, by go_num, HN2, by rw [List.length_append]; simp; omega, HT2, hid (by rw [List.length_append, List.map_append, List.map_append]; exact HRX.out.boxed (w.heap.size + 1) hzb _ _), hid (HCX.out.other (by omega) _ _), hid (HBX.out.put _ _), hid hHeld.2, by simp; omega⟩
                case measure => simp [RowKit.intOf]; omega
              · go_simp
                refine hK.out _ _ (One.allocB hHeld _) (fun hHeld => ?_)
                clear hK K
                try simp only [Act.put, List.setIfInBounds_toArray, List.set_cons_zero, List.set_cons_succ]
                refine wpAnyH_ready (rs := [1]) (by kernel_rfl) (by simp) ?_
                refine AllReadyH.cons rfl (fun K hK => ?_) AllReadyH.nil
                go_simp
                refine hK.out _ _ hHeld (fun hHeld => ?_)
                clear hK K
                try simp only [Act.put, List.setIfInBounds_toArray, List.set_cons_zero, List.set_cons_succ]
                refine wpAnyH_ready (rs := [5]) (by kernel_rfl) (by simp) ?_
                refine AllReadyH.cons rfl (fun K hK => ?_) AllReadyH.nil
                refine step_append_fl rfl (.tmp 37) (.tmp 40) (by rfl) W1.heap.size va ks.length (fls (ks.map Prod.fst)) (by rfl) (Rows2.alloc (Rows2.alloc HRW.out _) _).oa _ _ (floatOfInt .f64 t) (by rfl) (lit_at _ _ _ _ (by first | rfl | (simp; done))) (by omega) (by first | omega | (simp; omega)) ?_
                intro v7 w7 ho hg hv
                obtain ⟨p7, c7, rfl⟩ := slice_own ho
                have hS7 := One.grown hHeld hg hg2 (fun k hk => Nat.le_trans hzw (HLT.out k hk).1)
                have hz7 : wr.heap.size ≤ w7.heap.size := Nat.le_trans (by first | omega | (simp; done) | (simp; omega)) hg.size
                have HBX := hid (RBox.grown (RBox.alloc (RBox.alloc HBW.out _) _) hg (fun k hk => Nat.lt_of_lt_of_le hzb (HLT.out k hk).1))
                have HCX := hid (RBox.grown (RBox.alloc (RBox.alloc HCW.out _) _) hg (fun k hk => Nat.lt_of_lt_of_le (Nat.lt_of_succ_lt hzb) (HLT.out k hk).1))
                have HG := hid hg
                have HGB := HLT2
                have HRX := hid (Rows2.first (Rows2.alloc (Rows2.alloc HRW.out _) _) ho hg hv)
                clear ho hg hv
                obtain ⟨m0, m1, _, _⟩ := HBX.out.facts
                have m2 := fun c => (RBox.alloc HBX.out c).facts.1
                have m3 := fun c => (RBox.alloc HBX.out c).facts.2.1
                refine hK.out _ _ hS7 (fun hHeld => ?_)
                clear hK K
                refine take_at (i := 14) 50 (v := ?_) rfl rfl (by kernel_rfl) (by kernel_rfl) (by kernel_rfl) (fun _ _ _ h => h) (Or.inl ⟨by rfl, ?_⟩) (by assumption) ?_
                case refine_2 => ((intro w hSw); (try dsimp only at hSw); go_simp; (try with_reducible rfl))
                try simp only [Act.put, List.setIfInBounds_toArray]
                refine wpAnyH_ready (rs := [13]) (by kernel_rfl) (by simp) ?_
                refine AllReadyH.cons rfl (fun K hK => ?_) AllReadyH.nil
                refine step_append_fl rfl (.tmp 43) (.tmp 48) (by rfl) W1.heap.size vb ks.length (fls (ks.map Prod.snd)) (by rfl) HRX.out.ob _ _ y (by rfl) (lit_grown wr.heap.size HG.out (lit_old (lit_at _ _ _ _ (by first | rfl | (simp; done)))) (by first | (simp; done) | (simp; omega)) HGB.out) (by omega) (by first | omega | (simp; omega)) ?_
                intro v8 w8 ho hg hv
                obtain ⟨p8, c8, rfl⟩ := slice_own ho
                have hS7 := One.grown hHeld hg hg2 (fun k hk => Nat.le_trans hzw (HLU.out k hk).1)
                have hz7 : wr.heap.size ≤ w8.heap.size := Nat.le_trans (by first | omega | (simp; done) | (simp; omega)) hg.size
                have HBX := hid (RBox.grown HBX.out hg (fun k hk => Nat.lt_of_lt_of_le hzb (HLU.out k hk).1))
                have HCX := hid (RBox.grown HCX.out hg (fun k hk => Nat.lt_of_lt_of_le (Nat.lt_of_succ_lt hzb) (HLU.out k hk).1))
                have HG := hid hg
                have HGB := HLU2
                have HRX := hid (Rows2.second HRX.out ho hg hv)
                clear ho hg hv
                obtain ⟨n0, n1, n2, n3⟩ := HBX.out.facts
                refine hK.out _ _ hS7 (fun hHeld => ?_)
                clear hK K
                refine wpAnyH_ready (rs := [15]) (by kernel_rfl) (by simp) ?_
                refine AllReadyH.cons rfl (fun K hK => ?_) AllReadyH.nil
                go_simp
                refine hK.out _ _ (One.set hHeld hg2 (by omega) _ _) (fun hHeld => ?_)
                clear hK K
                try simp only [Act.put]
                refine take_at (i := 16) 51 (v := ?_) rfl rfl (by kernel_rfl) (by kernel_rfl) (by kernel_rfl) (fun _ _ _ h => h) (Or.inl ⟨by rfl, ?_⟩) (by assumption) ?_
                case refine_2 => ((intro w hSw); (try dsimp only at hSw); go_simp; (try with_reducible rfl))
                try simp only [Act.put, List.setIfInBounds_toArray, List.set_cons_zero, List.set_cons_succ]
                refine wpAnyH_ready (rs := [17]) (by kernel_rfl) (by simp) ?_
                refine AllReadyH.cons rfl (fun K hK => ?_) AllReadyH.nil
                go_simp
                refine hK.out _ _ (One.set hHeld hg2 (by omega) _ _) (fun hHeld => ?_)
                clear hK K
                try simp only [Act.put]
                refine wpAnyH_done (by kernel_rfl) ?_ _
                go_wp2
                go_roundw
                case rel => exact ⟨i + 1, ks ++ [(floatOfInt .f64 t, y)], _, _, by omega, by go_num, HN2, by rw [List.length_append]; simp; omega, HT2, hid (by rw [List.length_append, List.map_append, List.map_append]; exact HRX.out.boxed (w.heap.size + 1) hzb _ _), hid (HCX.out.other (by omega) _ _), hid (HBX.out.put _ _), hid hHeld.2, by simp; omega⟩
                case measure => simp [RowKit.intOf]; omega
          · go_simp
            refine hK.out _ _ (One.allocB hHeld _) (fun hHeld => ?_)
            clear hK K
            try simp only [Act.put, List.setIfInBounds_toArray, List.set_cons_zero, List.set_cons_succ]
            refine wpAnyH_ready (rs := [1, 4, 7]) (by kernel_rfl) (by simp) ?_
            refine AllReadyH.cons rfl (fun K hK => ?_) (AllReadyH.cons rfl (fun K hK => ?_) (AllReadyH.cons rfl (fun K hK => ?_) AllReadyH.nil))
            · go_simp
              refine hK.out _ _ hHeld (fun hHeld => ?_)
              clear hK K
              try simp only [Act.put, List.setIfInBounds_toArray, List.set_cons_zero, List.set_cons_succ]
              refine wpAnyH_ready (rs := [4, 7]) (by kernel_rfl) (by simp) ?_
              refine AllReadyH.cons rfl (fun K hK => ?_) (AllReadyH.cons rfl (fun K hK => ?_) AllReadyH.nil)
              · go_simp
                refine hK.out _ _ (One.allocB hHeld _) (fun hHeld => ?_)
                clear hK K
                try simp only [Act.put, List.setIfInBounds_toArray, List.set_cons_zero, List.set_cons_succ]
                refine wpAnyH_ready (rs := [5, 7]) (by kernel_rfl) (by simp) ?_
                refine AllReadyH.cons rfl (fun K hK => ?_) (AllReadyH.cons rfl (fun K hK => ?_) AllReadyH.nil)
                · refine step_append_fl rfl (.tmp 37) (.tmp 40) (by rfl) W1.heap.size va ks.length (fls (ks.map Prod.fst)) (by rfl) (Rows2.alloc (Rows2.alloc HRW.out _) _).oa _ _ (floatOfInt .f64 t) (by rfl) (lit_at _ _ _ _ (by first | rfl | (simp; done))) (by omega) (by first | omega | (simp; omega)) ?_
                  intro v7 w7 ho hg hv
                  obtain ⟨p7, c7, rfl⟩ := slice_own ho
                  have hS7 := One.grown hHeld hg hg2 (fun k hk => Nat.le_trans hzw (HLT.out k hk).1)
                  have hz7 : wr.heap.size ≤ w7.heap.size := Nat.le_trans (by first | omega | (simp; done) | (simp; omega)) hg.size
                  have HBX := hid (RBox.grown (RBox.alloc (RBox.alloc HBW.out _) _) hg (fun k hk => Nat.lt_of_lt_of_le hzb (HLT.out k hk).1))
                  have HCX := hid (RBox.grown (RBox.alloc (RBox.alloc HCW.out _) _) hg (fun k hk => Nat.lt_of_lt_of_le (Nat.lt_of_succ_lt hzb) (HLT.out k hk).1))
                  have HG := hid hg
                  have HGB := HLT2
                  have HRX := hid (Rows2.first (Rows2.alloc (Rows2.alloc HRW.out _) _) ho hg hv)
                  clear ho hg hv
                  obtain ⟨m0, m1, _, _⟩ := HBX.out.facts
                  have m2 := fun c => (RBox.alloc HBX.out c).facts.1
                  have m3 := fun c => (RBox.alloc HBX.out c).facts.2.1
                  refine hK.out _ _ hS7 (fun hHeld => ?_)
                  clear hK K
                  refine wpAnyH_ready (rs := [7]) (by kernel_rfl) (by simp) ?_
                  refine AllReadyH.cons rfl (fun K hK => ?_) AllReadyH.nil
                  go_simp
                  refine hK.out _ _ hHeld (fun hHeld => ?_)
                  clear hK K
                  try simp only [Act.put, List.setIfInBounds_toArray, List.set_cons_zero, List.set_cons_succ]
                  refine take_at (i := 14) 50 (v := ?_) rfl rfl (by kernel_rfl) (by kernel_rfl) (by kernel_rfl) (fun _ _ _ h => h) (Or.inl ⟨by rfl, ?_⟩) (by assumption) ?_
                  case refine_2 => ((intro w hSw); (try dsimp only at hSw); go_simp; (try with_reducible rfl))
                  try simp only [Act.put, List.setIfInBounds_toArray, List.set_cons_zero, List.set_cons_succ]
                  refine wpAnyH_ready (rs := [13]) (by kernel_rfl) (by simp) ?_
                  refine AllReadyH.cons rfl (fun K hK => ?_) AllReadyH.nil
                  refine step_append_fl rfl (.tmp 43) (.tmp 48) (by rfl) W1.heap.size vb ks.length (fls (ks.map Prod.snd)) (by rfl) HRX.out.ob _ _ y (by rfl) (lit_grown wr.heap.size HG.out (lit_old (lit_at _ _ _ _ (by first | rfl | (simp; done)))) (by first | (simp; done) | (simp; omega)) HGB.out) (by omega) (by first | omega | (simp; omega)) ?_
                  intro v8 w8 ho hg hv
                  obtain ⟨p8, c8, rfl⟩ := slice_own ho
                  have hS7 := One.grown hHeld hg hg2 (fun k hk => Nat.le_trans hzw (HLU.out k hk).1)
                  have hz7 : wr.heap.size ≤ w8.heap.size := Nat.le_trans (by first | omega | (simp; done) | (simp; omega)) hg.size
                  have HBX := hid (RBox.grown HBX.out hg (fun k hk => Nat.lt_of_lt_of_le hzb (HLU.out k hk).1))
                  have HCX := hid (RBox.grown HCX.out hg (fun k hk => Nat.lt_of_lt_of_le (Nat.lt_of_succ_lt hzb) (HLU.out k hk).1))
                  have HG := hid hg
                  have HGB := HLU2
                  have HRX := hid (Rows2.second HRX.out ho hg hv)
                  clear ho hg hv
                  obtain ⟨n0, n1, n2, n3⟩ := HBX.out.facts
                  refine hK.out _ _ hS7 (fun hHeld => ?_)
                  clear hK K
                  refine wpAnyH_ready (rs := [15]) (by kernel_rfl) (by simp) ?_
                  refine AllReadyH.cons rfl (fun K hK => ?_) AllReadyH.nil
                  go_simp
                  refine hK.out _ _ (One.set hHeld hg2 (by omega) _ _) (fun hHeld => ?_)
                  clear hK K
                  try simp only [Act.put]
                  refine take_at (i := 16) 51 (v := ?_) rfl rfl (by kernel_rfl) (by kernel_rfl) (by kernel_rfl) (fun _ _ _ h => h) (Or.inl ⟨by rfl, ?_⟩) (by assumption) ?_
                  case refine_2 => ((intro w hSw); (try dsimp only at hSw); go_simp; (try with_reducible rfl))
                  try simp only [Act.put, List.setIfInBounds_toArray, List.set_cons_zero, List.set_cons_succ]
                  refine wpAnyH_ready (rs := [17]) (by kernel_rfl) (by simp) ?_
                  refine AllReadyH.cons rfl (fun K hK => ?_) AllReadyH.nil
                  go_simp
                  refine hK.out _ _ (One.set hHeld hg2 (by omega) _ _) (fun hHeld => ?_)
                  clear hK K
                  try simp only [Act.put]
                  refine wpAnyH_done (by kernel_rfl) ?_ _
                  go_wp2
                  go_roundw
                  case rel => exact ⟨i + 1, ks ++ [(floatOfInt .f64 t, y)], _, _, by omega, by go_num, HN2, by rw [List.length_append]; simp; omega, HT2, hid (by rw [List.length_append, List.map_append, List.map_append]; exact HRX.out.boxed (w.heap.size + 1) hzb _ _), hid (HCX.out.other (by omega) _ _), hid (HBX.out.put _ _), hid hHeld.2, by simp; omega⟩
                  case measure => simp [RowKit.intOf]; omega
                · go_simp
                  refine hK.out _ _ hHeld (fun hHeld => ?_)
                  clear hK K
                  try simp only [Act.put, List.setIfInBounds_toArray, List.set_cons_zero, List.set_cons_succ]
                  refine wpAnyH_ready (rs := [5]) (by kernel_rfl) (by simp) ?_
                  refine AllReadyH.cons rfl (fun K hK => ?_) AllReadyH.nil
                  refine step_append_fl rfl (.tmp 37) (.tmp 40) (by rfl) W1.heap.size va ks.length (fls (ks.map Prod.fst)) (by rfl) (Rows2.alloc (Rows2.alloc HRW.out _) _).oa _ _ (floatOfInt .f64 t) (by rfl) (lit_at _ _ _ _ (by first | rfl | (simp; done))) (by omega) (by first | omega | (simp; omega)) ?_
                  intro v7 w7 ho hg hv
                  obtain ⟨p7, c7, rfl⟩ := slice_own ho
                  have hS7 := One.grown hHeld hg hg2 (fun k hk => Nat.le_trans hzw (HLT.out k hk).1)
                  have hz7 : wr.heap.size ≤ w7.heap.size := Nat.le_trans (by first | omega | (simp; done) | (simp; omega)) hg.size
                  have HBX := hid (RBox.grown (RBox.alloc (RBox.alloc HBW.out _) _) hg (fun k hk => Nat.lt_of_lt_of_le hzb (HLT.out k hk).1))
                  have HCX := hid (RBox.grown (RBox.alloc (RBox.alloc HCW.out _) _) hg (fun k hk => Nat.lt_of_lt_of_le (Nat.lt_of_succ_lt hzb) (HLT.out k hk).1))
                  have HG := hid hg
                  have HGB := HLT2
                  have HRX := hid (Rows2.first (Rows2.alloc (Rows2.alloc HRW.out _) _) ho hg hv)
                  clear ho hg hv
                  obtain ⟨m0, m1, _, _⟩ := HBX.out.facts
                  have m2 := fun c => (RBox.alloc HBX.out c).facts.1
                  have m3 := fun c => (RBox.alloc HBX.out c).facts.2.1
                  refine hK.out _ _ hS7 (fun hHeld => ?_)
                  clear hK K
                  refine take_at (i := 14) 50 (v := ?_) rfl rfl (by kernel_rfl) (by kernel_rfl) (by kernel_rfl) (fun _ _ _ h => h) (Or.inl ⟨by rfl, ?_⟩) (by assumption) ?_
                  case refine_2 => ((intro w hSw); (try dsimp only at hSw); go_simp; (try with_reducible rfl))
                  try simp only [Act.put, List.setIfInBounds_toArray]
                  refine wpAnyH_ready (rs := [13]) (by kernel_rfl) (by simp) ?_
                  refine AllReadyH.cons rfl (fun K hK => ?_) AllReadyH.nil
                  refine step_append_fl rfl (.tmp 43) (.tmp 48) (by rfl) W1.heap.size vb ks.length (fls (ks.map Prod.snd)) (by rfl) HRX.out.ob _ _ y (by rfl) (lit_grown wr.heap.size HG.out (lit_old (lit_at _ _ _ _ (by first | rfl | (simp; done)))) (by first | (simp; done) | (simp; omega)) HGB.out) (by omega) (by first | omega | (simp; omega)) ?_
                  intro v8 w8 ho hg hv
                  obtain ⟨p8, c8, rfl⟩ := slice_own ho
                  have hS7 := One.grown hHeld hg hg2 (fun k hk => Nat.le_trans hzw (HLU.out k hk).1)
                  have hz7 : wr.heap.size ≤ w8.heap.size := Nat.le_trans (by first | omega | (simp; done) | (simp; omega)) hg.size
                  have HBX := hid (RBox.grown HBX.out hg (fun k hk => Nat.lt_of_lt_of_le hzb (HLU.out k hk).1))
                  have HCX := hid (RBox.grown HCX.out hg (fun k hk => Nat.lt_of_lt_of_le (Nat.lt_of_succ_lt hzb) (HLU.out k hk).1))
                  have HG := hid hg
                  have HGB := HLU2
                  have HRX := hid (Rows2.second HRX.out ho hg hv)
                  clear ho hg hv
                  obtain ⟨n0, n1, n2, n3⟩ := HBX.out.facts
                  refine hK.out _ _ hS7 (fun hHeld => ?_)
                  clear hK K
                  refine wpAnyH_ready (rs := [15]) (by kernel_rfl) (by simp) ?_
                  refine AllReadyH.cons rfl (fun K hK => ?_) AllReadyH.nil
                  go_simp
                  refine hK.out _ _ (One.set hHeld hg2 (by omega) _ _) (fun hHeld => ?_)
                  clear hK K
                  try simp only [Act.put]
                  refine take_at (i := 16) 51 (v := ?_) rfl rfl (by kernel_rfl) (by kernel_rfl) (by kernel_rfl) (fun _ _ _ h => h) (Or.inl ⟨by rfl, ?_⟩) (by assumption) ?_
                  case refine_2 => ((intro w hSw); (try dsimp only at hSw); go_simp; (try with_reducible rfl))
                  try simp only [Act.put, List.setIfInBounds_toArray, List.set_cons_zero, List.set_cons_succ]
                  refine wpAnyH_ready (rs := [17]) (by kernel_rfl) (by simp) ?_
                  refine AllReadyH.cons rfl (fun K hK => ?_) AllReadyH.nil
                  go_simp
                  refine hK.out _ _ (One.set hHeld hg2 (by omega) _ _) (fun hHeld => ?_)
                  clear hK K
                  try simp only [Act.put]
                  refine wpAnyH_done (by kernel_rfl) ?_ _
                  go_wp2
                  go_roundw
                  case rel => exact ⟨i + 1, ks ++ [(floatOfInt .f64 t, y)], _, _, by omega, by go_num, HN2, by rw [List.length_append]; simp; omega, HT2, hid (by rw [List.length_append, List.map_append, List.map_append]; exact HRX.out.boxed (w.heap.size + 1) hzb _ _), hid (HCX.out.other (by omega) _ _), hid (HBX.out.put _ _), hid hHeld.2, by simp; omega⟩
                  case measure => simp [RowKit.intOf]; omega
              · go_simp
                refine hK.out _ _ hHeld (fun hHeld => ?_)
                clear hK K
                try simp only [Act.put, List.setIfInBounds_toArray, List.set_cons_zero, List.set_cons_succ]
                refine wpAnyH_ready (rs := [4]) (by kernel_rfl) (by simp) ?_
                refine AllReadyH.cons rfl (fun K hK => ?_) AllReadyH.nil
                go_simp
                refine hK.out _ _ (One.allocB hHeld _) (fun hHeld => ?_)
                clear hK K
                try simp only [Act.put, List.setIfInBounds_toArray, List.set_cons_zero, List.set_cons_succ]
                refine wpAnyH_ready (rs := [5]) (by kernel_rfl) (by simp) ?_
                refine AllReadyH.cons rfl (fun K hK => ?_) AllReadyH.nil
                refine step_append_fl rfl (.tmp 37) (.tmp 40) (by rfl) W1.heap.size va ks.length (fls (ks.map Prod.fst)) (by rfl) (Rows2.alloc (Rows2.alloc HRW.out _) _).oa _ _ (floatOfInt .f64 t) (by rfl) (lit_at _ _ _ _ (by first | rfl | (simp; done))) (by omega) (by first | omega | (simp; omega)) ?_
                intro v7 w7 ho hg hv
                obtain ⟨p7, c7, rfl⟩ := slice_own ho
                have hS7 := One.grown hHeld hg hg2 (fun k hk => Nat.le_trans hzw (HLT.out k hk).1)
                have hz7 : wr.heap.size ≤ w7.heap.size := Nat.le_trans (by first | omega | (simp; done) | (simp; omega)) hg.size
                have HBX := hid (RBox.grown (RBox.alloc (RBox.alloc HBW.out _) _) hg (fun k hk => Nat.lt_of_lt_of_le hzb (HLT.out k hk).1))
                have HCX := hid (RBox.grown (RBox.alloc (RBox.alloc HCW.out _) _) hg (fun k hk => Nat.lt_of_lt_of_le (Nat.lt_of_succ_lt hzb) (HLT.out k hk).1))
                have HG := hid hg
                have HGB := HLT2
                have HRX := hid (Rows2.first (Rows2.alloc (Rows2.alloc HRW.out _) _) ho hg hv)
                clear ho hg hv
                obtain ⟨m0, m1, _, _⟩ := HBX.out.facts
                have m2 := fun c => (RBox.alloc HBX.out c).facts.1
                have m3 := fun c => (RBox.alloc HBX.out c).facts.2.1
                refine hK.out _ _ hS7 (fun hHeld => ?_)
                clear hK K
                refine take_at (i := 14) 50 (v := ?_) rfl rfl (by kernel_rfl) (by kernel_rfl) (by kernel_rfl) (fun _ _ _ h => h) (Or.inl ⟨by rfl, ?_⟩) (by assumption) ?_
                case refine_2 => ((intro w hSw); (try dsimp only at hSw); go_simp; (try with_reducible rfl))
                try simp only [Act.put, List.setIfInBounds_toArray]
                refine wpAnyH_ready (rs := [13]) (by kernel_rfl) (by simp) ?_
                refine AllReadyH.cons rfl (fun K hK => ?_) AllReadyH.nil
                refine step_append_fl rfl (.tmp 43) (.tmp 48) (by rfl) W1.heap.size vb ks.length (fls (ks.map Prod.snd)) (by rfl) HRX.out.ob _ _ y (by rfl) (lit_grown wr.heap.size HG.out (lit_old (lit_at _ _ _ _ (by first | rfl | (simp; done)))) (by first | (simp; done) | (simp; omega)) HGB.out) (by omega) (by first | omega | (simp; omega)) ?_
                intro v8 w8 ho hg hv
                obtain ⟨p8, c8, rfl⟩ := slice_own ho
                have hS7 := One.grown hHeld hg hg2 (fun k hk => Nat.le_trans hzw (HLU.out k hk).1)
                have hz7 : wr.heap.size ≤ w8.heap.size := Nat.le_trans (by first | omega | (simp; done) | (simp; omega)) hg.size
                have HBX := hid (RBox.grown HBX.out hg (fun k hk => Nat.lt_of_lt_of_le hzb (HLU.out k hk).1))
                have HCX := hid (RBox.grown HCX.out hg (fun k hk => Nat.lt_of_lt_of_le (Nat.lt_of_succ_lt hzb) (HLU.out k hk).1))
                have HG := hid hg
                have HGB := HLU2
                have HRX := hid (Rows2.second HRX.out ho hg hv)
                clear ho hg hv
                obtain ⟨n0, n1, n2, n3⟩ := HBX.out.facts
                refine hK.out _ _ hS7 (fun hHeld => ?_)
                clear hK K
                refine wpAnyH_ready (rs := [15]) (by kernel_rfl) (by simp) ?_
                refine AllReadyH.cons rfl (fun K hK => ?_) AllReadyH.nil
                go_simp
                refine hK.out _ _ (One.set hHeld hg2 (by omega) _ _) (fun hHeld => ?_)
                clear hK K
                try simp only [Act.put]
                refine take_at (i := 16) 51 (v := ?_) rfl rfl (by kernel_rfl) (by kernel_rfl) (by kernel_rfl) (fun _ _ _ h => h) (Or.inl ⟨by rfl, ?_⟩) (by assumption) ?_
                case refine_2 => ((intro w hSw); (try dsimp only at hSw); go_simp; (try with_reducible rfl))
                try simp only [Act.put, List.setIfInBounds_toArray, List.set_cons_zero, List.set_cons_succ]
                refine wpAnyH_ready (rs := [17]) (by kernel_rfl) (by simp) ?_
                refine AllReadyH.cons rfl (fun K hK => ?_) AllReadyH.nil
                go_simp
                refine hK.out _ _ (One.set hHeld hg2 (by omega) _ _) (fun hHeld => ?_)
                clear hK K
                try simp only [Act.put]
                refine wpAnyH_done (by kernel_rfl) ?_ _
                go_wp2
                go_roundw
                case rel => exact ⟨i + 1, ks ++ [(floatOfInt .f64 t, y)], _, _, by omega, by go_num, HN2, by rw [List.length_append]; simp; omega, HT2, hid (by rw [List.length_append, List.map_append, List.map_append]; exact HRX.out.boxed (w.heap.size + 1) hzb _ _), hid (HCX.out.other (by omega) _ _), hid (HBX.out.put _ _), hid hHeld.2, by simp; omega⟩
                case measure => simp [RowKit.intOf]; omega
            · go_simp
              refine hK.out _ _ (One.allocB hHeld _) (fun hHeld => ?_)
              clear hK K
              try simp only [Act.put, List.setIfInBounds_toArray, List.set_cons_zero, List.set_cons_succ]
              refine wpAnyH_ready (rs := [1, 7]) (by kernel_rfl) (by simp) ?_
              refine AllReadyH.cons rfl (fun K hK => ?_) (AllReadyH.cons rfl (fun K hK => ?_) AllReadyH.nil)
              · go_simp
                refine hK.out _ _ hHeld (fun hHeld => ?_)
                clear hK K
                try simp only [Act.put, List.setIfInBounds_toArray, List.set_cons_zero, List.set_cons_succ]
                refine wpAnyH_ready (rs := [5, 7]) (by kernel_rfl) (by simp) ?_
                refine AllReadyH.cons rfl (fun K hK => ?_) (AllReadyH.cons rfl (fun K hK => ?_) AllReadyH.nil)
                · refine step_append_fl rfl (.tmp 37) (.tmp 40) (by rfl) W1.heap.size va ks.length (fls (ks.map Prod.fst)) (by rfl) (Rows2.alloc (Rows2.alloc HRW.out _) _).oa _ _ (floatOfInt .f64 t) (by rfl) (lit_at _ _ _ _ (by first | rfl | (simp; done))) (by omega) (by first | omega | (simp; omega)) ?_
                  intro v7 w7 ho hg hv
                  obtain ⟨p7, c7, rfl⟩ := slice_own ho
                  have hS7 := One.grown hHeld hg hg2 (fun k hk => Nat.le_trans hzw (HLT.out k hk).1)
                  have hz7 : wr.heap.size ≤ w7.heap.size := Nat.le_trans (by first | omega | (simp; done) | (simp; omega)) hg.size
                  have HBX := hid (RBox.grown (RBox.alloc (RBox.alloc HBW.out _) _) hg (fun k hk => Nat.lt_of_lt_of_le hzb (HLT.out k hk).1))
                  have HCX := hid (RBox.grown (RBox.alloc (RBox.alloc HCW.out _) _) hg (fun k hk => Nat.lt_of_lt_of_le (Nat.lt_of_succ_lt hzb) (HLT.out k hk).1))
                  have HG := hid hg
                  have HGB := HLT2
                  have HRX := hid (Rows2.first (Rows2.alloc (Rows2.alloc HRW.out _) _) ho hg hv)
                  clear ho hg hv
                  obtain ⟨m0, m1, _, _⟩ := HBX.out.facts
                  have m2 := fun c => (RBox.alloc HBX.out c).facts.1
                  have m3 := fun c => (RBox.alloc HBX.out c).facts.2.1
                  refine hK.out _ _ hS7 (fun hHeld => ?_)
                  clear hK K
                  refine wpAnyH_ready (rs := [7]) (by kernel_rfl) (by simp) ?_
                  refine AllReadyH.cons rfl (fun K hK => ?_) AllReadyH.nil
                  go_simp
                  refine hK.out _ _ hHeld (fun hHeld => ?_)
                  clear hK K
                  try simp only [Act.put, List.setIfInBounds_toArray, List.set_cons_zero, List.set_cons_succ]
                  refine take_at (i := 14) 50 (v := ?_) rfl rfl (by kernel_rfl) (by kernel_rfl) (by kernel_rfl) (fun _ _ _ h => h) (Or.inl ⟨by rfl, ?_⟩) (by assumption) ?_
                  case refine_2 => ((intro w hSw); (try dsimp only at hSw); go_simp; (try with_reducible rfl))
                  try simp only [Act.put, List.setIfInBounds_toArray, List.set_cons_zero, List.set_cons_succ]
                  refine wpAnyH_ready (rs := [13]) (by kernel_rfl) (by simp) ?_
                  refine AllReadyH.cons rfl (fun K hK => ?_) AllReadyH.nil
                  refine step_append_fl rfl (.tmp 43) (.tmp 48) (by rfl) W1.heap.size vb ks.length (fls (ks.map Prod.snd)) (by rfl) HRX.out.ob _ _ y (by rfl) (lit_grown wr.heap.size HG.out (lit_old (lit_at _ _ _ _ (by first | rfl | (simp; done)))) (by first | (simp; done) | (simp; omega)) HGB.out) (by omega) (by first | omega | (simp; omega)) ?_
                  intro v8 w8 ho hg hv
                  obtain ⟨p8, c8, rfl⟩ := slice_own ho
                  have hS7 := One.grown hHeld hg hg2 (fun k hk => Nat.le_trans hzw (HLU.out k hk).1)
                  have hz7 : wr.heap.size ≤ w8.heap.size := Nat.le_trans (by first | omega | (simp; done) | (simp; omega)) hg.size
                  have HBX := hid (RBox.grown HBX.out hg (fun k hk => Nat.lt_of_lt_of_le hzb (HLU.out k hk).1))
                  have HCX := hid (RBox.grown HCX.out hg (fun k hk => Nat.lt_of_lt_of_le (Nat.lt_of_succ_lt hzb) (HLU.out k hk).1))
                  have HG := hid hg
                  have HGB := HLU2
                  have HRX := hid (Rows2.second HRX.out ho hg hv)
                  clear ho hg hv
                  obtain ⟨n0, n1, n2, n3⟩ := HBX.out.facts
                  refine hK.out _ _ hS7 (fun hHeld => ?_)
                  clear hK K
                  refine wpAnyH_ready (rs := [15]) (by kernel_rfl) (by simp) ?_
                  refine AllReadyH.cons rfl (fun K hK => ?_) AllReadyH.nil
                  go_simp
                  refine hK.out _ _ (One.set hHeld hg2 (by omega) _ _) (fun hHeld => ?_)
                  clear hK K
                  try simp only [Act.put]
                  refine take_at (i := 16) 51 (v := ?_) rfl rfl (by kernel_rfl) (by kernel_rfl) (by kernel_rfl) (fun _ _ _ h => h) (Or.inl ⟨by rfl, ?_⟩) (by assumption) ?_
                  case refine_2 => ((intro w hSw); (try dsimp only at hSw); go_simp; (try with_reducible rfl))
                  try simp only [Act.put, List.setIfInBounds_toArray, List.set_cons_zero, List.set_cons_succ]
                  refine wpAnyH_ready (rs := [17]) (by kernel_rfl) (by simp) ?_
                  refine AllReadyH.cons rfl (fun K hK => ?_) AllReadyH.nil
                  go_simp
                  refine hK.out _ _ (One.set hHeld hg2 (by omega) _ _) (fun hHeld => ?_)
                  clear hK K
                  try simp only [Act.put]
                  refine wpAnyH_done (by kernel_rfl) ?_ _
                  go_wp2
                  go_roundw
                  case rel => exact ⟨i + 1, ks ++ [(floatOfInt .f64 t, y)], _, _, by omega, by go_num, HN2, by rw [List.length_append]; simp; omega, HT2, hid (by rw [List.length_append, List.map_append, List.map_append]; exact HRX.out.boxed (w.heap.size + 1) hzb _ _), hid (HCX.out.other (by omega) _ _), hid (HBX.out.put _ _), hid hHeld.2, by simp; omega⟩
                  case measure => simp [RowKit.intOf]; omega
                · go_simp
                  refine hK.out _ _ hHeld (fun hHeld => ?_)
                  clear hK K
                  try simp only [Act.put, List.setIfInBounds_toArray, List.set_cons_zero, List.set_cons_succ]
                  refine wpAnyH_ready (rs := [5]) (by kernel_rfl) (by simp) ?_
                  refine AllReadyH.cons rfl (fun K hK => ?_) AllReadyH.nil
                  refine step_append_fl rfl (.tmp 37) (.tmp 40) (by rfl) W1.heap.size va ks.length (fls (ks.map Prod.fst)) (by rfl) (Rows2.alloc (Rows2.alloc HRW.out _) _).oa _ _ (floatOfInt .f64 t) (by rfl) (lit_at _ _ _ _ (by first | rfl | (simp; done))) (by omega) (by first | omega | (simp; omega)) ?_
                  intro v7 w7 ho hg hv
                  obtain ⟨p7, c7, rfl⟩ := slice_own ho
                  have hS7 := One.grown hHeld hg hg2 (fun k hk => Nat.le_trans hzw (HLT.out k hk).1)
                  have hz7 : wr.heap.size ≤ w7.heap.size := Nat.le_trans (by first | omega | (simp; done) | (simp; omega)) hg.size
                  have HBX := hid (RBox.grown (RBox.alloc (RBox.alloc HBW.out _) _) hg (fun k hk => Nat.lt_of_lt_of_le hzb (HLT.out k hk).1))
                  have HCX := hid (RBox.grown (RBox.alloc (RBox.alloc HCW.out _) _) hg (fun k hk => Nat.lt_of_lt_of_le (Nat.lt_of_succ_lt hzb) (HLT.out k hk).1))
                  have HG := hid hg
                  have HGB := HLT2
                  have HRX := hid (Rows2.first (Rows2.alloc (Rows2.alloc HRW.out _) _) ho hg hv)
                  clear ho hg hv
                  obtain ⟨m0, m1, _, _⟩ := HBX.out.facts
                  have m2 := fun c => (RBox.alloc HBX.out c).facts.1
                  have m3 := fun c => (RBox.alloc HBX.out c).facts.2.1
                  refine hK.out _ _ hS7 (fun hHeld => ?_)
                  clear hK K
                  refine take_at (i := 14) 50 (v := ?_) rfl rfl (by kernel_rfl) (by kernel_rfl) (by kernel_rfl) (fun _ _ _ h => h) (Or.inl ⟨by rfl, ?_⟩) (by assumption) ?_
                  case refine_2 => ((intro w hSw); (try dsimp only at hSw); go_simp; (try with_reducible rfl))
                  try simp only [Act.put, List.setIfInBounds_toArray]
                  refine wpAnyH_ready (rs := [13]) (by kernel_rfl) (by simp) ?_
                  refine AllReadyH.cons rfl (fun K hK => ?_) AllReadyH.nil
                  refine step_append_fl rfl (.tmp 43) (.tmp 48) (by rfl) W1.heap.size vb ks.length (fls (ks.map Prod.snd)) (by rfl) HRX.out.ob _ _ y (by rfl) (lit_grown wr.heap.size HG.out (lit_old (lit_at _ _ _ _ (by first | rfl | (simp; done)))) (by first | (simp; done) | (simp; omega)) HGB.out) (by omega) (by first | omega | (simp; omega)) ?_
                  intro v8 w8 ho hg hv
                  obtain ⟨p8, c8, rfl⟩ := slice_own ho
                  have hS7 := One.grown hHeld hg hg2 (fun k hk => Nat.le_trans hzw (HLU.out k hk).1)
                  have hz7 : wr.heap.size ≤ w8.heap.size := Nat.le_trans (by first | omega | (simp; done) | (simp; omega)) hg.size
                  have HBX := hid (RBox.grown HBX.out hg (fun k hk => Nat.lt_of_lt_of_le hzb (HLU.out k hk).1))
                  have HCX := hid (RBox.grown HCX.out hg (fun k hk => Nat.lt_of_lt_of_le (Nat.lt_of_succ_lt hzb) (HLU.out k hk).1))
                  have HG := hid hg
                  have HGB := HLU2
                  have HRX := hid (Rows2.second HRX.out ho hg hv)
                  clear ho hg hv
                  obtain ⟨n0, n1, n2, n3⟩ := HBX.out.facts
                  refine hK.out _ _ hS7 (fun hHeld => ?_)
                  clear hK K
                  refine wpAnyH_ready (rs := [15]) (by kernel_rfl) (by simp) ?_
                  refine AllReadyH.cons rfl (fun K hK => ?_) AllReadyH.nil
                  go_simp
                  refine hK.out _ _ (One.set hHeld hg2 (by omega) _ _) (fun hHeld => ?_)
                  clear hK K
                  try simp only [Act.put]
                  refine take_at (i := 16) 51 (v := ?_) rfl rfl (by kernel_rfl) (by kernel_rfl) (by kernel_rfl) (fun _ _ _ h => h) (Or.inl ⟨by rfl, ?_⟩) (by assumption) ?_
                  case refine_2 => ((intro w hSw); (try dsimp only at hSw); go_simp; (try with_reducible rfl))
                  try simp only [Act.put, List.setIfInBounds_toArray, List.set_cons_zero, List.set_cons_succ]
                  refine wpAnyH_ready (rs := [17]) (by kernel_rfl) (by simp) ?_
                  refine AllReadyH.cons rfl (fun K hK => ?_) AllReadyH.nil
                  go_simp
                  refine hK.out _ _ (One.set hHeld hg2 (by omega) _ _) (fun hHeld => ?_)
                  clear hK K
                  try simp only [Act.put]
                  refine wpAnyH_done (by kernel_rfl) ?_ _
                  go_wp2
                  go_roundw
                  case rel => exact ⟨i + 1, ks ++ [(floatOfInt .f64 t, y)], _, _, by omega, by go_num, HN2, by rw [List.length_append]; simp; omega, HT2, hid (by rw [List.length_append, List.map_append, List.map_append]; exact HRX.out.boxed (w.heap.size + 1) hzb _ _), hid (HCX.out.other (by omega) _ _), hid (HBX.out.put _ _), hid hHeld.2, by simp; omega⟩
                  case measure => simp [RowKit.intOf]; omega
              · go_simp
                refine hK.out _ _ hHeld (fun hHeld => ?_)
                clear hK K
                try simp only [Act.put, List.setIfInBounds_toArray, List.set_cons_zero, List.set_cons_succ]
                refine wpAnyH_ready (rs := [1]) (by kernel_rfl) (by simp) ?_
                refine AllReadyH.cons rfl (fun K hK => ?_) AllReadyH.nil
                go_simp
                refine hK.out _ _ hHeld (fun hHeld => ?_)
                clear hK K
                try simp only [Act.put, List.setIfInBounds_toArray, List.set_cons_zero, List.set_cons_succ]
                refine wpAnyH_ready (rs := [5]) (by kernel_rfl) (by simp) ?_
                refine AllReadyH.cons rfl (fun K hK => ?_) AllReadyH.nil
                refine step_append_fl rfl (.tmp 37) (.tmp 40) (by rfl) W1.heap.size va ks.length (fls (ks.map Prod.fst)) (by rfl) (Rows2.alloc (Rows2.alloc HRW.out _) _).oa _ _ (floatOfInt .f64 t) (by rfl) (lit_at _ _ _ _ (by first | rfl | (simp; done))) (by omega) (by first | omega | (simp; omega)) ?_
                intro v7 w7 ho hg hv
                obtain ⟨p7, c7, rfl⟩ := slice_own ho
                have hS7 := One.grown hHeld hg hg2 (fun k hk => Nat.le_trans hzw (HLT.out k hk).1)
                have hz7 : wr.heap.size ≤ w7.heap.size := Nat.le_trans (by first | omega | (simp; done) | (simp; omega)) hg.size
                have HBX := hid (RBox.grown (RBox.alloc (RBox.alloc HBW.out _) _) hg (fun k hk => Nat.lt_of_lt_of_le hzb (HLT.out k hk).1))
                have HCX := hid (RBox.grown (RBox.alloc (RBox.alloc HCW.out _) _) hg (fun k hk => Nat.lt_of_lt_of_le (Nat.lt_of_succ_lt hzb) (HLT.out k hk).1))
                have HG := hid hg
                have HGB := HLT2
                have HRX := hid (Rows2.first (Rows2.alloc (Rows2.alloc HRW.out _) _) ho hg hv)
                clear ho hg hv
                obtain ⟨m0, m1, _, _⟩ := HBX.out.facts
                have m2 := fun c => (RBox.alloc HBX.out c).facts.1
                have m3 := fun c => (RBox.alloc HBX.out c).facts.2.1
                refine hK.out _ _ hS7 (fun hHeld => ?_)
                clear hK K
                refine take_at (i := 14) 50 (v := ?_) rfl rfl (by kernel_rfl) (by kernel_rfl) (by kernel_rfl) (fun _ _ _ h => h) (Or.inl ⟨by rfl, ?_⟩) (by assumption) ?_
                case refine_2 => ((intro w hSw); (try dsimp only at hSw); go_simp; (try with_reducible rfl))
                try simp only [Act.put, List.setIfInBounds_toArray]
                refine wpAnyH_ready (rs := [13]) (by kernel_rfl) (by simp) ?_
                refine AllReadyH.cons rfl (fun K hK => ?_) AllReadyH.nil
                refine step_append_fl rfl (.tmp 43) (.tmp 48) (by rfl) W1.heap.size vb ks.length (fls (ks.map Prod.snd)) (by rfl) HRX.out.ob _ _ y (by rfl) (lit_grown wr.heap.size HG.out (lit_old (lit_at _ _ _ _ (by first | rfl | (simp; done)))) (by first | (simp; done) | (simp; omega)) HGB.out) (by omega) (by first | omega | (simp; omega)) ?_
                intro v8 w8 ho hg hv
                obtain ⟨p8, c8, rfl⟩ := slice_own ho
                have hS7 := One.grown hHeld hg hg2 (fun k hk => Nat.le_trans hzw (HLU.out k hk).1)
                have hz7 : wr.heap.size ≤ w8.heap.size := Nat.le_trans (by first | omega | (simp; done) | (simp; omega)) hg.size
                have HBX := hid (RBox.grown HBX.out hg (fun k hk => Nat.lt_of_lt_of_le hzb (HLU.out k hk).1))
                have HCX := hid (RBox.grown HCX.out hg (fun k hk => Nat.lt_of_lt_of_le (Nat.lt_of_succ_lt hzb) (HLU.out k hk).1))
                have HG := hid hg
                have HGB := HLU2
                have HRX := hid (Rows2.second HRX.out ho hg hv)
                clear ho hg hv
                obtain ⟨n0, n1, n2, n3⟩ := HBX.out.facts
                refine hK.out _ _ hS7 (fun hHeld => ?_)
                clear hK K
                refine wpAnyH_ready (rs := [15]) (by kernel_rfl) (by simp) ?_
                refine AllReadyH.cons rfl (fun K hK => ?_) AllReadyH.nil
                go_simp
                refine hK.out _ _ (One.set hHeld hg2 (by omega) _ _) (fun hHeld => ?_)
                clear hK K
                try simp only [Act.put]
                refine take_at (i := 16) 51 (v := ?_) rfl rfl (by kernel_rfl) (by kernel_rfl) (by kernel_rfl) (fun _ _ _ h => h) (Or.inl ⟨by rfl, ?_⟩) (by assumption) ?_
                case refine_2 => ((intro w hSw); (try dsimp only at hSw); go_simp; (try with_reducible rfl))
                try simp only [Act.put, List.setIfInBounds_toArray, List.set_cons_zero, List.set_cons_succ]
                refine wpAnyH_ready (rs := [17]) (by kernel_rfl) (by simp) ?_
                refine AllReadyH.cons rfl (fun K hK => ?_) AllReadyH.nil
                go_simp
                refine hK.out _ _ (One.set hHeld hg2 (by omega) _ _) (fun hHeld => ?_)
                clear hK K
                try simp only [Act.put]
                refine wpAnyH_done (by kernel_rfl) ?_ _
                go_wp2
                go_roundw
                case rel => exact ⟨i + 1, ks ++ [(floatOfInt .f64 t, y)], _, _, by omega, by go_num, HN2, by rw [List.length_append]; simp; omega, HT2, hid (by rw [List.length_append, List.map_append, List.map_append]; exact HRX.out.boxed (w.heap.size + 1) hzb _ _), hid (HCX.out.other (by omega) _ _), hid (HBX.out.put _ _), hid hHeld.2, by simp; omega⟩
                case measure => simp [RowKit.intOf]; omega
            · go_simp
              refine hK.out _ _ hHeld (fun hHeld => ?_)
              clear hK K
              try simp only [Act.put, List.setIfInBounds_toArray, List.set_cons_zero, List.set_cons_succ]
              refine wpAnyH_ready (rs := [1, 4]) (by kernel_rfl) (by simp) ?_
              refine AllReadyH.cons rfl (fun K hK => ?_) (AllReadyH.cons rfl (fun K hK => ?_) AllReadyH.nil)
              · go_simp
                refine hK.out _ _ hHeld (fun hHeld => ?_)
                clear hK K
                try simp only [Act.put, List.setIfInBounds_toArray, List.set_cons_zero, List.set_cons_succ]
                refine wpAnyH_ready (rs := [4]) (by kernel_rfl) (by simp) ?_
                refine AllReadyH.cons rfl (fun K hK => ?_) AllReadyH.nil
                go_simp
                refine hK.out _ _ (One.allocB hHeld _) (fun hHeld => ?_)
                clear hK K
                try simp only [Act.put, List.setIfInBounds_toArray, List.set_cons_zero, List.set_cons_succ]
                refine wpAnyH_ready (rs := [5]) (by kernel_rfl) (by simp) ?_
                refine AllReadyH.cons rfl (fun K hK => ?_) AllReadyH.nil
                refine step_append_fl rfl (.tmp 37) (.tmp 40) (by rfl) W1.heap.size va ks.length (fls (ks.map Prod.fst)) (by rfl) (Rows2.alloc (Rows2.alloc HRW.out _) _).oa _ _ (floatOfInt .f64 t) (by rfl) (lit_at _ _ _ _ (by first | rfl | (simp; done))) (by omega) (by first | omega | (simp; omega)) ?_
                intro v7 w7 ho hg hv
                obtain ⟨p7, c7, rfl⟩ := slice_own ho
                have hS7 := One.grown hHeld hg hg2 (fun k hk => Nat.le_trans hzw (HLT.out k hk).1)
                have hz7 : wr.heap.size ≤ w7.heap.size := Nat.le_trans (by first | omega | (simp; done) | (simp; omega)) hg.size
                have HBX := hid (RBox.grown (RBox.alloc (RBox.alloc HBW.out _) _) hg (fun k hk => Nat.lt_of_lt_of_le hzb (HLT.out k hk).1))
                have HCX := hid (RBox.grown (RBox.alloc (RBox.alloc HCW.out _) _) hg (fun k hk => Nat.lt_of_lt_of_le (Nat.lt_of_succ_lt hzb) (HLT.out k hk).1))
                have HG := hid hg
                have HGB := HLT2
                have HRX := hid (Rows2.first (Rows2.alloc (Rows2.alloc HRW.out _) _) ho hg hv)
                clear ho hg hv
                obtain ⟨m0, m1, _, _⟩ := HBX.out.facts
                have m2 := fun c => (RBox.alloc HBX.out c).facts.1
                have m3 := fun c => (RBox.alloc HBX.out c).facts.2.1
                refine hK.out _ _ hS7 (fun hHeld => ?_)
                clear hK K
                refine take_at (i := 14) 50 (v := ?_) rfl rfl (by kernel_rfl) (by kernel_rfl) (by kernel_rfl) (fun _ _ _ h => h) (Or.inl ⟨by rfl, ?_⟩) (by assumption) ?_
                case refine_2 => ((intro w hSw); (try dsimp only at hSw); go_simp; (try with_reducible rfl))
                try simp only [Act.put, List.setIfInBounds_toArray]
                refine wpAnyH_ready (rs := [13]) (by kernel_rfl) (by simp) ?_
                refine AllReadyH.cons rfl (fun K hK => ?_) AllReadyH.nil
                refine step_append_fl rfl (.tmp 43) (.tmp 48) (by rfl) W1.heap.size vb ks.length (fls (ks.map Prod.snd)) (by rfl) HRX.out.ob _ _ y (by rfl) (lit_grown wr.heap.size HG.out (lit_old (lit_at _ _ _ _ (by first | rfl | (simp; done)))) (by first | (simp; done) | (simp; omega)) HGB.out) (by omega) (by first | omega | (simp; omega)) ?_
                intro v8 w8 ho hg hv
                obtain ⟨p8, c8, rfl⟩ := slice_own ho
                have hS7 := One.grown hHeld hg hg2 (fun k hk => Nat.le_trans hzw (HLU.out k hk).1)
                have hz7 : wr.heap.size ≤ w8.heap.size := Nat.le_trans (by first | omega | (simp; done) | (simp; omega)) hg.size
                have HBX := hid (RBox.grown HBX.out hg (fun k hk => Nat.lt_of_lt_of_le hzb (HLU.out k hk).1))
                have HCX := hid (RBox.grown HCX.out hg (fun k hk => Nat.lt_of_lt_of_le (Nat.lt_of_succ_lt hzb) (HLU.out k hk).1))
                have HG := hid hg
                have HGB := HLU2
                have HRX := hid (Rows2.second HRX.out ho hg hv)
                clear ho hg hv
                obtain ⟨n0, n1, n2, n3⟩ := HBX.out.facts
                refine hK.out _ _ hS7 (fun hHeld => ?_)
                clear hK K
                refine wpAnyH_ready (rs := [15]) (by kernel_rfl) (by simp) ?_
                refine AllReadyH.cons rfl (fun K hK => ?_) AllReadyH.nil
                go_simp
                refine hK.out _ _ (One.set hHeld hg2 (by omega) _ _) (fun hHeld => ?_)
                clear hK K
                try simp only [Act.put]
                refine take_at (i := 16) 51 (v := ?_) rfl rfl (by kernel_rfl) (by kernel_rfl) (by kernel_rfl) (fun _ _ _ h => h) (Or.inl ⟨by rfl, ?_⟩) (by assumption) ?_
                case refine_2 => ((intro w hSw); (try dsimp only at hSw); go_simp; (try with_reducible rfl))
                try simp only [Act.put, List.setIfInBounds_toArray, List.set_cons_zero, List.set_cons_succ]
                refine wpAnyH_ready (rs := [17]) (by kernel_rfl) (by simp) ?_
                refine AllReadyH.cons rfl (fun K hK => ?_) AllReadyH.nil
                go_simp
                refine hK.out _ _ (One.set hHeld hg2 (by omega) _ _) (fun hHeld => ?_)
                clear hK K
                try simp only [Act.put]
                refine wpAnyH_done (by kernel_rfl) ?_ _
                go_wp2
                go_roundw
                case rel => exact ⟨i + 1, ks ++ [(floatOfInt .f64 t, y)], _, _, by omega, by go_num, HN2, by rw [List.length_append]; simp; omega, HT2, hid (by rw [List.length_append, List.map_append, List.map_append]; exact HRX.out.boxed (w.heap.size + 1) hzb _ _), hid (HCX.out.other (by omega) _ _), hid (HBX.out.put _ _), hid hHeld.2, by simp; omega⟩
                case measure => simp [RowKit.intOf]; omega
              · go_simp
                refine hK.out _ _ (One.allocB hHeld _) (fun hHeld => ?_)
                clear hK K
                try simp only [Act.put, List.setIfInBounds_toArray, List.set_cons_zero, List.set_cons_succ]
                refine wpAnyH_ready (rs := [1]) (by kernel_rfl) (by simp) ?_
                refine AllReadyH.cons rfl (fun K hK => ?_) AllReadyH.nil
                go_simp
                refine hK.out _ _ hHeld (fun hHeld => ?_)
                clear hK K
                try simp only [Act.put, List.setIfInBounds_toArray, List.set_cons_zero, List.set_cons_succ]
                refine wpAnyH_ready (rs := [5]) (by kernel_rfl) (by simp) ?_
                refine AllReadyH.cons rfl (fun K hK => ?_) AllReadyH.nil
                refine step_append_fl rfl (.tmp 37) (.tmp 40) (by rfl) W1.heap.size va ks.length (fls (ks.map Prod.fst)) (by rfl) (Rows2.alloc (Rows2.alloc HRW.out _) _).oa _ _ (floatOfInt .f64 t) (by rfl) (lit_at _ _ _ _ (by first | rfl | (simp; done))) (by omega) (by first | omega | (simp; omega)) ?_
                intro v7 w7 ho hg hv
                obtain ⟨p7, c7, rfl⟩ := slice_own ho
                have hS7 := One.grown hHeld hg hg2 (fun k hk => Nat.le_trans hzw (HLT.out k hk).1)
                have hz7 : wr.heap.size ≤ w7.heap.size := Nat.le_trans (by first | omega | (simp; done) | (simp; omega)) hg.size
                have HBX := hid (RBox.grown (RBox.alloc (RBox.alloc HBW.out _) _) hg (fun k hk => Nat.lt_of_lt_of_le hzb (HLT.out k hk).1))
                have HCX := hid (RBox.grown (RBox.alloc (RBox.alloc HCW.out _) _) hg (fun k hk => Nat.lt_of_lt_of_le (Nat.lt_of_succ_lt hzb) (HLT.out k hk).1))
                have HG := hid hg
                have HGB := HLT2
                have HRX := hid (Rows2.first (Rows2.alloc (Rows2.alloc HRW.out _) _) ho hg hv)
                clear ho hg hv
                obtain ⟨m0, m1, _, _⟩ := HBX.out.facts
                have m2 := fun c => (RBox.alloc HBX.out c).facts.1
                have m3 := fun c => (RBox.alloc HBX.out c).facts.2.1
                refine hK.out _ _ hS7 (fun hHeld => ?_)
                clear hK K
                refine take_at (i := 14) 50 (v := ?_) rfl rfl (by kernel_rfl) (by kernel_rfl) (by kernel_rfl) (fun _ _ _ h => h) (Or.inl ⟨by rfl, ?_⟩) (by assumption) ?_
                case refine_2 => ((intro w hSw); (try dsimp only at hSw); go_simp; (try with_reducible rfl))
                try simp only [Act.put, List.setIfInBounds_toArray]
                refine wpAnyH_ready (rs := [13]) (by kernel_rfl) (by simp) ?_
                refine AllReadyH.cons rfl (fun K hK => ?_) AllReadyH.nil
                refine step_append_fl rfl (.tmp 43) (.tmp 48) (by rfl) W1.heap.size vb ks.length (fls (ks.map Prod.snd)) (by rfl) HRX.out.ob _ _ y (by rfl) (lit_grown wr.heap.size HG.out (lit_old (lit_at _ _ _ _ (by first | rfl | (simp; done)))) (by first | (simp; done) | (simp; omega)) HGB.out) (by omega) (by first | omega | (simp; omega)) ?_
                intro v8 w8 ho hg hv
                obtain ⟨p8, c8, rfl⟩ := slice_own ho
                have hS7 := One.grown hHeld hg hg2 (fun k hk => Nat.le_trans hzw (HLU.out k hk).1)
                have hz7 : wr.heap.size ≤ w8.heap.size := Nat.le_trans (by first | omega | (simp; done) | (simp; omega)) hg.size
                have HBX := hid (RBox.grown HBX.out hg (fun k hk => Nat.lt_of_lt_of_le hzb (HLU.out k hk).1))
                have HCX := hid (RBox.grown HCX.out hg (fun k hk => Nat.lt_of_lt_of_le (Nat.lt_of_succ_lt hzb) (HLU.out k hk).1))
                have HG := hid hg
                have HGB := HLU2
                have HRX := hid (Rows2.second HRX.out ho hg hv)
                clear ho hg hv
                obtain ⟨n0, n1, n2, n3⟩ := HBX.out.facts
                refine hK.out _ _ hS7 (fun hHeld => ?_)
                clear hK K
                refine wpAnyH_ready (rs := [15]) (by kernel_rfl) (by simp) ?_
                refine AllReadyH.cons rfl (fun K hK => ?_) AllReadyH.nil
                go_simp
                refine hK.out _ _ (One.set hHeld hg2 (by omega) _ _) (fun hHeld => ?_)
                clear hK K
                try simp only [Act.put]
                refine take_at (i := 16) 51 (v := ?_) rfl rfl (by kernel_rfl) (by kernel_rfl) (by kernel_rfl) (fun _ _ _ h => h) (Or.inl ⟨by rfl, ?_⟩) (by assumption) ?_
                case refine_2 => ((intro w hSw); (try dsimp only at hSw); go_simp; (try with_reducible rfl))
                try simp only [Act.put, List.setIfInBounds_toArray, List.set_cons_zero, List.set_cons_succ]
                refine wpAnyH_ready (rs := [17]) (by kernel_rfl) (by simp) ?_
                refine AllReadyH.cons rfl (fun K hK => ?_) AllReadyH.nil
                go_simp
                refine hK.out _ _ (One.set hHeld hg2 (by omega) _ _) (fun hHeld => ?_)
                clear hK K
                try simp only [Act.put]
                refine wpAnyH_done (by kernel_rfl) ?_ _
                go_wp2
                go_roundw
                case rel => exact ⟨i + 1, ks ++ [(floatOfInt .f64 t, y)], _, _, by omega, by go_num, HN2, by rw [List.length_append]; simp; omega, HT2, hid (by rw [List.length_append, List.map_append, List.map_append]; exact HRX.out.boxed (w.heap.size + 1) hzb _ _), hid (HCX.out.other (by omega) _ _), hid (HBX.out.put _ _), hid hHeld.2, by simp; omega⟩
                case measure => simp [RowKit.intOf]; omega
    · have hie : i = zs.length := by omega
      subst hie
      have HK2 := HK.out
      have HT2 := HT.out
      rw [List.take_length] at HK2 HT2
      obtain ⟨j0, j1, _, _⟩ := HY.out.facts
      have HOK := hid HT2
      have HKS := hid HK2
      clear HK2 HT2
      obtain ⟨pa, ca, rfl⟩ := slice_own HR.out.oa
      obtain ⟨pb, cb, rfl⟩ := slice_own HR.out.ob
      go_wp2
      refine bodyPost_ret (v := .tuple #[.agg #[.slice pa ks.length ca, .slice pb ks.length cb], .bool true]) (by simp [results, Try.results43, go_sem, k0, k1]) rfl (read_post (.slice pa ks.length ca) (.slice pb ks.length cb) (by rw [HOK.out]) (fun _ => ?_) (fun h => by rw [HOK.out] at h; cases h) ?_)
      rotate_left
      · exact (HB.out.setCell (p := ⟨w.heap.size, 0, none⟩) (Nat.le_refl _) _).setCell (p := ⟨w.heap.size, 1, none⟩) (Nat.le_refl _) _
      have h1 := HR.out.boxed w.heap.size (by omega) (.slice pa ks.length ca) (.slice pb ks.length cb)
      rw [HKS.out]
      exact ⟨row_fl_own2 (by simp) h1.oa, row_fl_own2 (by simp) h1.ob, slice_own h1.oa⟩
end Go.Proofs.Ythpnlhbfginkjaa
