/- A drawn Nv, walked. -/
import Derived.Test.YtknipcnlaaapoaaDrawNv
import Derived.Deep.RegionHeld3
namespace Go.Proofs.Ytknipcnlaaapoaa
open Go.RowKit
open Go.Lib (hid)

theorem take_nv {P : Program} {md : Region.Mode} {ops : Array Oper} {Q : Exit → Act → World → Prop} {S : World → Prop} {i : Nat} {oi : Oper} (d : Tmp) {v : Value} {fuel : Nat} {listed : Array Bool} {a : Act} {w : World} (hi : ops[i]? = some oi) (hd : oi.dst = some d)
    (hs : Region.noSelect ops = true) (hf : Region.free md ops listed i = true) (hr : (Region.ready md ops listed).contains i = true)
    (hQ : ∀ c a w, Q (.panic c) (a.put (some d) v) w → Q (.panic c) a w) (hy : YieldsIf P ops S oi v a) (hS : S w)
    (h : wpAnyH P md ops Q S fuel (listed.setIfInBounds i true) (a.put (some d) v) w) : wpAnyH P md ops Q S (fuel + 1) listed a w := by
  rw [← hd] at hQ h
  exact wpAnyH_take hi hs hf hr hQ hy hS h

theorem nv_row_step {w w' : World} {b g n c : Nat} {l : List Int} (h : RowIn w (.slice (some ⟨g, 0, none⟩) n c) l) (hne : g ≠ b) (hs : Step b w w') : RowIn w' (.slice (some ⟨g, 0, none⟩) n c) l := by
  obtain ⟨p, c', e, hc, hp⟩ := h
  refine ⟨p, c', e, hc, fun hl => ?_⟩
  obtain ⟨g', o', rfl, hg, hcell⟩ := hp hl
  injection e with e1 _ _
  injection e1 with e1
  injection e1 with e1 e2 _
  subst e1 e2
  exact ⟨g, 0, rfl, Nat.lt_of_lt_of_le hg hs.size, fun j hj => (hs.cell (p := ⟨g, 0 + j, none⟩) hg hne).trans (hcell j hj)⟩

theorem NvG.drew {w : World} {b : Nat} {q : Option Addr} {n c vb g cap : Nat} {m : Int} {W : List Int} {wr : World} (h : NvG w b q n c vb g cap m W wr) : NvG w b q n c vb g cap m W wr.drew :=
  ⟨h.box, h.row, h.far, h.here, h.reader.drewN 1, h.step.drew⟩

theorem NvG.other {w : World} {b : Nat} {q : Option Addr} {n c vb g cap nb : Nat} {m : Int} {W : List Int} {wr : World} (h : NvG w b q n c vb g cap m W wr) (hb : b < w.heap.size) (hq : ∀ ad, q = some ad → ad.block < w.heap.size ∨ n = 0) (hn : w.heap.size ≤ nb) (h1 : nb ≠ vb) (h2 : nb ≠ g) (o : Nat) (u : Value) :
    NvG w b q n c vb g cap m W (wr.setCell ⟨nb, o, none⟩ u) :=
  ⟨(heap_setCell_other wr ⟨nb, o, none⟩ vb u (fun e => h1 e.symm)).trans h.box, ownsRow_setCell_other h.row (a := ⟨nb, o, none⟩) (fun e => h2 (Option.some.inj e).symm) u, h.far, h.here, nv_set_rd h.reader hb hq hn o u, nv_far h.step hn o u⟩

/-- What a put into right words answers. -/
def PutN (m : Int) (W : List Int) (w : World) (e : Ending) (w' : World) : Prop :=
  ∃ (s2 : Int) (W2 : List Int) (ok : Bool) (p2 : Option Addr) (c2 : Nat), e = .returned (.tuple #[.agg #[.int .i64 s2, .slice p2 W2.length c2], .bool ok]) ∧ Below w.heap.size w w' ∧ w'.ownsRow w.heap.size 2 1 (.slice p2 W2.length c2) W2.length (ints W2) ∧ (ok = true → s2 = m ∧ W2.length = W.length)

theorem put_n (m : Int) (W vs : List Int) (hl : W.length ≤ 1048576) (hv : vs.length ≤ 1048576) (cut : Int) (hc : cut ≤ 9223372036854775807) (a b : Value) (w : World) (ha : RowIn w a W) (hb : RowIn w b vs) (hnil : ∀ c, b = .slice none vs.length c → c = 0) :
    Calls Try.prog 6 #[.agg #[.int .i64 m, a], b, .int .i64 cut] w (PutN m W w) := by
  refine (put_spec m W vs hl hv cut hc a b w ha hb hnil).mono ?_
  unfold PutPost
  rintro e w' ⟨sv, rfl, hb, ho⟩
  obtain ⟨p2, c2, rfl, _, _⟩ := row_in_own ho
  exact ⟨_, _, _, p2, c2, rfl, hb, ho, fun h => ⟨(torn h).1, (torn h).2.1⟩⟩

theorem rowin_set {w : World} {p : Option Addr} {k cc : Nat} {l : List Int} (h : RowIn w (.slice p k cc) l) {x : Nat} (hp : ∀ ad, p = some ad → ad.block ≠ x) (o : Nat) (u : Value) : RowIn (w.setCell ⟨x, o, none⟩ u) (.slice p k cc) l := by
  obtain ⟨p', c', e, hc, hr⟩ := h
  injection e with e1 e2 e3
  subst e1 e2 e3
  refine ⟨_, _, rfl, hc, fun hne => ?_⟩
  obtain ⟨g, o2, rfl, hg, hcell⟩ := hr hne
  have hx : g ≠ x := hp _ rfl
  refine ⟨g, o2, rfl, by simpa [World.setCell] using hg, fun j hj => ?_⟩
  rw [← hcell j hj]
  unfold World.cell?
  dsimp only
  rw [heap_setCell_other w ⟨x, o, none⟩ g u (fun e => hx e)]

/-- The end: what stands goes into the result's box. -/
theorem nv_fin {w w0 wr : World} {b : Nat} {q : Option Addr} {n c : Nat} (hsw : Step b w w0) (hbw : b < w.heap.size) (hq : ∀ ad, q = some ad → ad.block < w.heap.size ∨ n = 0) (s : Int) (hs : -9223372036854775808 ≤ s ∧ s ≤ 9223372036854775807) (W : List Int) (hW : W.length ≤ 100) (p : Option Addr) (k cc : Nat) (hk : k = W.length)
    (hrow : RowIn wr (.slice p k cc) W) (hp : ∀ ad, p = some ad → w.heap.size < ad.block) (hr : Rd wr b q n c) (hst : Step b w0 wr) :
    DrawnNv b q n c w (.returned (.agg #[.int .i64 s, .slice p k cc])) ((wr.setCell ⟨w.heap.size, 0, none⟩ (.int .i64 s)).setCell ⟨w.heap.size, 1, none⟩ (.slice p k cc)) := by
  subst hk
  exact drawn_nv s W _ rfl hs hW (rowin_set (rowin_set hrow (fun ad e => by have := hp ad e; omega) 0 _) (fun ad e => by have := hp ad e; omega) 1 _) (fun g o k2 c2 e => by injection e with e; exact hp _ e) (nv_set_rd (nv_set_rd hr hbw hq (Nat.le_refl _) 0 _) hbw hq (Nat.le_refl _) 1 _) (nv_far (nv_far (hsw.trans hst) (Nat.le_refl _) 0 _) (Nat.le_refl _) 1 _)

/-- Another size is put into the box. -/
theorem NvG.sized {w : World} {b : Nat} {q : Option Addr} {n c vb g cap : Nat} {m : Int} {W : List Int} {wr : World} (h : NvG w b q n c vb g cap m W wr) (hb : b < w.heap.size) (hq : ∀ ad, q = some ad → ad.block < w.heap.size ∨ n = 0) (y : Int) :
    NvG w b q n c vb g cap y W (wr.setCell ⟨vb, 0, none⟩ (.int .i64 y)) :=
  ⟨heap_setCell_same wr vb 0 _ _ (.int .i64 y) h.box, ownsRow_setCell_other h.row (a := ⟨vb, 0, none⟩) (fun e => h.far (Option.some.inj e).symm) _, h.far, h.here, nv_set_rd h.reader hb hq h.here 0 _, nv_far h.step h.here 0 _⟩

/-- Another number is put into the row. -/
theorem NvG.put {w : World} {b : Nat} {q : Option Addr} {n c vb g cap : Nat} {m : Int} {W : List Int} {wr : World} (h : NvG w b q n c vb g cap m W wr) (hb : b < w.heap.size) (hq : ∀ ad, q = some ad → ad.block < w.heap.size ∨ n = 0) (hg : w.heap.size ≤ g) (j : Nat) (y : Int) :
    NvG w b q n c vb g cap m (W.set j y) (wr.setCell ⟨g, j, none⟩ (.int .i64 y)) := by
  have hs := (h.row.stored j (.int .i64 y)).1
  rw [ints_set] at hs
  have hl : (W.set j y).length = W.length := List.length_set
  refine ⟨?_, ?_, h.far, h.here, nv_set_rd h.reader hb hq hg j _, nv_far h.step hg j _⟩
  · rw [hl]
    exact (heap_setCell_other wr ⟨g, j, none⟩ vb _ (fun e => h.far e)).trans h.box
  · rw [hl]
    exact hs

/-- All but the first of a row. -/
theorem rowin_tail {w : World} {base g k cap : Nat} {l : List Int} (h : w.ownsRow base 2 1 (.slice (some ⟨g, 0, none⟩) k cap) k (ints l)) (hk : k = l.length) : RowIn w (.slice (some ⟨g, 1, none⟩) (k - 1) (cap - 1)) (l.drop 1) := by
  subst hk
  have hlen : (l.drop 1).length = l.length - 1 := by rw [List.length_drop]
  have hcap : l.length ≤ cap := by
    rcases h.2 with ⟨hv, _⟩ | ⟨g', cap', cur, e1, _, _, hle, _⟩
    · cases hv
    · injection e1 with _ _ e3
      omega
  refine ⟨_, cap - 1, by rw [hlen], by rw [hlen]; omega, fun _ => ⟨g, 1, rfl, (h.lt g rfl).2, fun j hj => ?_⟩⟩
  rw [hlen] at hj
  rw [show 1 + j = j + 1 by omega, h.cellAt (j + 1) (by omega), ints_at _ _ (by omega), List.getElem_drop]
  congr 3
  omega

theorem nv_cap {w : World} {base g k cap : Nat} {xs : List Value} (h : w.ownsRow base 2 1 (.slice (some ⟨g, 0, none⟩) k cap) k xs) : k ≤ cap := by
  rcases h.2 with ⟨hv, _⟩ | ⟨g', cap', cur, e1, _, _, hle, _⟩
  · cases hv
  · injection e1 with _ _ e3
    omega

theorem NvG.grown {w : World} {b : Nat} {q : Option Addr} {n c vb g cap : Nat} {m : Int} {W : List Int} {wr w' : World} (h : NvG w b q n c vb g cap m W wr) (hb : b < w.heap.size) (hq : ∀ ad, q = some ad → ad.block < w.heap.size ∨ n = 0) {k : Nat} (hg : wr.grownBy w' (some k)) (hk : w.heap.size ≤ k) (h1 : k ≠ vb) (h2 : k ≠ g) : NvG w b q n c vb g cap m W w' := by
  have hz := h.step.size
  have hbel : Below w.heap.size wr w' := (Below.refl _ _).grown hg hz (fun j hj => by injection hj with hj; omega)
  have hvb := (Array.getElem?_eq_some_iff.1 h.box).1
  refine ⟨(hg.block vb hvb (fun e => h1 (Option.some.inj e).symm)).trans h.box, h.row.kept hg (Or.inr (fun e => h2 (Option.some.inj e).symm)), h.far, h.here, nv_under h.reader hb hbel hq, ⟨hg.os.trans h.step.os, hg.tape.trans h.step.tape, hg.output.trans h.step.output, Nat.le_trans hz hg.size, fun j hj hjb => (hg.block j (Nat.lt_of_lt_of_le hj hz) (fun e => by injection e with e; omega)).trans (h.step.block j hj hjb)⟩⟩

set_option maxRecDepth 20000 in
set_option maxHeartbeats 8000000 in
theorem d_nv (w : World) (b : Nat) (q : Option Addr) (n c : Nat) (h : Rd w b q n c) :
    Calls Try.prog 21 #[.pointer (some ⟨b, 0, none⟩)] w (DrawnNv b q n c w) := by
  have hbw := h.here
  have HOLDW := hid (nv_old h)
  obtain ⟨w0, hw0⟩ : ∃ W, W = w.alloc (.cells #[.int .i64 0, .slice none 0 0] 26) := ⟨_, rfl⟩
  have HR : Hid (Rd w0 b q n c) := hid (by rw [hw0]; exact h.below ((Below.refl _ _).alloc (Nat.le_refl _) _))
  have HSW : Hid (Step b w w0) := hid (by rw [hw0]; exact (Step.refl _ _).alloc _)
  have HS : Hid (Step b w0 w0) := hid (Step.refl _ _)
  have HBX : Hid (w0.heap[w.heap.size]? = some (.cells #[.int .i64 0, .slice none 0 0] 26)) := hid (by rw [hw0]; exact heap_alloc_new _ _)
  have HBX0 := HBX
  have hz0 : w0.heap.size = w.heap.size + 1 := by rw [hw0]; simp
  have hbw0 : b < w0.heap.size := by omega
  have HOLD : Hid (∀ ad, q = some ad → ad.block < w0.heap.size ∨ n = 0) := hid (fun ad e => (HOLDW.out ad e).imp (fun h => by omega) id)
  have HW0 := hid hw0
  clear h hw0
  go_enter Try.func21, Try.ntmps21
  go_wp2_with (go_at_call 24; rw [← HW0.out]; refine (d_below 5 (by omega) _ _ _ _ _ HR.out).mono ?_; rintro e w1 ⟨x, rfl, ⟨hx0, hx1⟩, hr1, hs1⟩; refine Hid.out ?_)
  refine hid ?_
  have HR1 := hid hr1
  have HS1 := hid (HS.out.trans hs1)
  have HBX1 := hid ((hs1.block w.heap.size (by omega) (by omega)).trans HBX.out)
  have hz1 := hs1.size
  have hx5 := hx1 (by omega)
  clear hr1 hs1 hx1
  obtain ⟨m, hm⟩ : ∃ m : Nat, 1 + x = (m : Int) := ⟨(1 + x).toNat, by omega⟩
  have hm1 : 1 ≤ m := by omega
  have hm5 : m ≤ 5 := by omega
  obtain rfl : x = (m : Int) - 1 := by omega
  clear hx0 hx5
  go_wp2_with (go_at_call 23; refine (d_numbers m (by omega) _ _ _ _ _ HR1.out).mono ?_; rintro e w2 ⟨v, l, rfl, hl, hg⟩; refine Hid.out ?_)
  refine hid ?_
  have HG2 := hid hg
  obtain ⟨g1, c1, rfl, hg1, hg2⟩ := own_form hg.own (by omega)
  have hnew : newOut l = ((m : Int), newWords l, true) := by
    unfold newOut
    rw [if_pos (valsB_iff.2 ⟨by omega, by omega, rfl, hg.numb⟩), hl]
  have hlw : (newWords l).length = 2 * (m + 2) := by rw [newWords_len, hl]
  have CN := hid (new_spec l (by omega) (.slice (some ⟨g1, 0, none⟩) l.length c1) w2 (row_in_own2 rfl hg.own) (fun c h => by cases h))
  unfold NewPost at CN
  rw [hnew] at CN
  dsimp only at CN
  have HS2 := hid (HS1.out.trans hg.step)
  have HBX2 := hid ((hg.step.block w.heap.size (by omega) (by omega)).trans HBX1.out)
  have hz2 := hg.step.size
  have HLW := hid hlw
  have HLM := hid hl
  clear hg hnew hlw hl hm
  generalize newWords l = W0 at *
  generalize l.length = ll at *
  go_wp2_with (go_at_call 43; refine CN.out.mono ?_; rintro e w3 ⟨sv, rfl, hb3, ho3⟩; obtain ⟨g3, c3, rfl, hg3, hg4⟩ := own_form ho3 (by have := HLW.out; omega); refine Hid.out ?_)
  refine hid ?_
  have hz3 := hb3.size
  obtain ⟨w4, hw4⟩ : ∃ W, W = w3.alloc (.cells #[.int .i64 m, .slice (some ⟨g3, 0, none⟩) W0.length c3] 26) := ⟨_, rfl⟩
  obtain ⟨vb, hvb⟩ : ∃ vb, vb = w3.heap.size := ⟨_, rfl⟩
  have HG4 : Hid (NvG w0 b q n c vb g3 c3 m W0 w4) := hid (by rw [hw4, hvb]; exact NvG.start (HG2.out.reader.below hb3) (nv_belowF HS2.out hb3) hg4 (own_raise ho3 (by omega)))
  have HW4 := hid hw4
  have HVB := hid hvb
  clear hb3 ho3 hw4 HG2 HR1 HS1 HBX1 HBX2 hvb
  go_wp2_with (go_at_call 24; rw [← HW4.out]; refine (d_below 5 (by omega) _ _ _ _ _ HG4.out.reader).mono ?_; rintro e w5 ⟨x, rfl, ⟨hx0, hx1⟩, hr5, hs5⟩; refine Hid.out ?_)
  refine hid ?_
  have HG5 := hid (HG4.out.call hbw0 hr5 hs5)
  have hx5 := hx1 (by omega)
  clear hr5 hs5 hx1 HG4
  obtain ⟨k, rfl⟩ := Int.eq_ofNat_of_zero_le hx0
  rw [← HVB.out]
  go_wp2
  go_loopw [6] (fun kv wr => ∃ (k : Nat) (g cap : Nat) (W : List Int), k ≤ 4 ∧ kv = .int .i64 ((k : Nat) : Int) ∧ Hid (W.length = 2 * (m + 2)) ∧ Hid (NvG w0 b q n c vb g cap m W wr)) (fun kv _ => (RowKit.intOf kv).toNat)
  case atStart => exact ⟨k, g3, c3, W0, by omega, rfl, HLW, HG5⟩
  case round =>
    clear HG5 HLW
    obtain ⟨k, g, cap, W, hk, rfl, HLW, HG⟩ := hrel
    by_cases hlt : 0 < k
    · obtain ⟨k2, rfl⟩ : ∃ k2, k = k2 + 1 := ⟨k - 1, by omega⟩
      go_upto_region 6 with (fail)
      refine wp_region_held_drew (S := fun w' => NvG w0 b q n c vb g cap m W w') (by kernel_rfl) (NvG.drew HG.out) (fun hHeld => ?_)
      obtain ⟨wd, hwd⟩ : ∃ X, X = wr.drew := ⟨_, rfl⟩
      rw [← hwd] at hHeld ⊢
      clear hwd
      refine take_nv (i := 0) 27 (v := ?_) rfl rfl (by kernel_rfl) (by kernel_rfl) (by kernel_rfl) (fun _ _ _ h => h) (Or.inl ⟨by rfl, ?_⟩) (by assumption) ?_
      case refine_2 => ((intro w hSw); (try dsimp only at hSw); obtain ⟨d0, d1⟩ := var_cells hSw.box; go_simp; (try with_reducible rfl))
      try simp only [Act.put, List.setIfInBounds_toArray, List.set_cons_zero, List.set_cons_succ]
      refine take_nv (i := 1) 28 (v := ?_) rfl rfl (by kernel_rfl) (by kernel_rfl) (by kernel_rfl) (fun _ _ _ h => h) (Or.inl ⟨by rfl, ?_⟩) (by assumption) ?_
      case refine_2 => ((intro w hSw); (try dsimp only at hSw); go_simp; (try with_reducible rfl))
      try simp only [Act.put, List.setIfInBounds_toArray, List.set_cons_zero, List.set_cons_succ]
      refine take_nv (i := 2) 29 (v := ?_) rfl rfl (by kernel_rfl) (by kernel_rfl) (by kernel_rfl) (fun _ _ _ h => h) (Or.inl ⟨by rfl, ?_⟩) (by assumption) ?_
      case refine_2 => ((intro w hSw); (try dsimp only at hSw); go_simp; (try with_reducible rfl))
      try simp only [Act.put, List.setIfInBounds_toArray, List.set_cons_zero, List.set_cons_succ]
      refine take_nv (i := 4) 31 (v := ?_) rfl rfl (by kernel_rfl) (by kernel_rfl) (by kernel_rfl) (fun _ _ _ h => h) (Or.inl ⟨by rfl, ?_⟩) (by assumption) ?_
      case refine_2 => ((intro w hSw); (try dsimp only at hSw); go_simp; (try with_reducible rfl))
      try simp only [Act.put, List.setIfInBounds_toArray, List.set_cons_zero, List.set_cons_succ]
      refine take_nv (i := 5) 32 (v := ?_) rfl rfl (by kernel_rfl) (by kernel_rfl) (by kernel_rfl) (fun _ _ _ h => h) (Or.inl ⟨by rfl, ?_⟩) (by assumption) ?_
      case refine_2 => ((intro w hSw); (try dsimp only at hSw); go_simp; (try with_reducible rfl))
      try simp only [Act.put, List.setIfInBounds_toArray, List.set_cons_zero, List.set_cons_succ]
      refine take_nv (i := 6) 33 (v := ?_) rfl rfl (by kernel_rfl) (by kernel_rfl) (by kernel_rfl) (fun _ _ _ h => h) (Or.inl ⟨by rfl, ?_⟩) (by assumption) ?_
      case refine_2 => ((intro w hSw); (try dsimp only at hSw); go_simp; (try with_reducible rfl))
      try simp only [Act.put, List.setIfInBounds_toArray, List.set_cons_zero, List.set_cons_succ]
      refine wpAnyH_ready (rs := [3, 12]) (by kernel_rfl) (by simp) ?_
      refine AllReadyH.cons rfl (fun K hK => ?_) (AllReadyH.cons rfl (fun K hK => ?_) AllReadyH.nil)
      · go_simp
        go_at_call 23
        refine (d_numbers m (by omega) _ _ _ _ _ hHeld.reader).mono ?_
        rintro e w11 ⟨v, l, rfl, hl, hg⟩
        obtain ⟨gl, cl, rfl, hgl, _⟩ := own_form hg.own (by omega)
        have hglb : gl ≠ b := by have := hHeld.step.size; omega
        have HRL := hid (row_in_own2 rfl hg.own)
        have HLL := hid hl
        have hS7 := hHeld.call hbw0 hg.reader hg.step
        clear hg hl
        go_wp2_with fail
        refine hK.out _ _ hS7 (fun hHeld => ?_)
        clear hK K hS7
        try simp only [Act.put, List.setIfInBounds_toArray, List.set_cons_zero, List.set_cons_succ]
        refine wpAnyH_ready (rs := [7, 12]) (by kernel_rfl) (by simp) ?_
        refine AllReadyH.cons rfl (fun K hK => ?_) (AllReadyH.cons rfl (fun K hK => ?_) AllReadyH.nil)
        · go_simp
          go_at_call 24
          rw [show IntKind.i64.wrap ((m : Int) + 5) = (m : Int) + 5 by rw [IntKind.wrap_i64]; omega]
          refine (d_below ((m : Int) + 5) (by omega) _ _ _ _ _ hHeld.reader).mono ?_
          rintro e w12 ⟨x, rfl, ⟨hx0, hx1⟩, hr, hs⟩
          have hxm := hx1 (by omega)
          have HRL := hid (nv_row_step HRL.out hglb hs)
          have hS7 := hHeld.call hbw0 hr hs
          clear hr hs hx1
          go_wp2_with fail
          refine hK.out _ _ hS7 (fun hHeld => ?_)
          clear hK K hS7
          try simp only [Act.put, List.setIfInBounds_toArray, List.set_cons_zero, List.set_cons_succ]
          refine wpAnyH_ready (rs := [8, 12]) (by kernel_rfl) (by simp) ?_
          refine AllReadyH.cons rfl (fun K hK => ?_) (AllReadyH.cons rfl (fun K hK => ?_) AllReadyH.nil)
          · go_simp
            go_at_call 6
            refine (put_n m W l (by have := HLW.out; omega) (by have := HLL.out; omega) x (by omega) _ _ _ (row_in_own2 rfl hHeld.row) HRL.out (fun c h => by cases h)).mono ?_
            unfold PutN
            rintro e w13 ⟨s2, W2, ok, p2, c2, rfl, hb, ho, hok⟩
            have HOW := hid (own_raise ho hHeld.step.size)
            have HOK := hid hok
            have hvlt := (Array.getElem?_eq_some_iff.1 hHeld.box).1
            have HVE : Hid ((Value.slice p2 W2.length c2).ownBlock ≠ some vb) := hid (fun e => by have := (ho.lt vb e).1; omega)
            have hS7 := hHeld.on hbw0 hb
            clear hb ho hok hvlt
            go_wp2_with fail
            refine hK.out _ _ hS7 (fun hHeld => ?_)
            clear hK K hS7
            try simp only [Act.put, List.setIfInBounds_toArray, List.set_cons_zero, List.set_cons_succ]
            refine take_nv (i := 9) 26 (v := ?_) rfl rfl (by kernel_rfl) (by kernel_rfl) (by kernel_rfl) (fun _ _ _ h => h) (Or.inl ⟨by rfl, ?_⟩) (by assumption) ?_
            case refine_2 => ((intro w hSw); (try dsimp only at hSw); go_simp; (try with_reducible rfl))
            try simp only [Act.put, List.setIfInBounds_toArray, List.set_cons_zero, List.set_cons_succ]
            refine take_nv (i := 10) 36 (v := ?_) rfl rfl (by kernel_rfl) (by kernel_rfl) (by kernel_rfl) (fun _ _ _ h => h) (Or.inl ⟨by rfl, ?_⟩) (by assumption) ?_
            case refine_2 => ((intro w hSw); (try dsimp only at hSw); go_simp; (try with_reducible rfl))
            try simp only [Act.put, List.setIfInBounds_toArray, List.set_cons_zero, List.set_cons_succ]
            refine take_nv (i := 11) 37 (v := ?_) rfl rfl (by kernel_rfl) (by kernel_rfl) (by kernel_rfl) (fun _ _ _ h => h) (Or.inl ⟨by rfl, ?_⟩) (by assumption) ?_
            case refine_2 => ((intro w hSw); (try dsimp only at hSw); go_simp; (try with_reducible rfl))
            try simp only [Act.put, List.setIfInBounds_toArray, List.set_cons_zero, List.set_cons_succ]
            refine wpAnyH_ready (rs := [12]) (by kernel_rfl) (by simp) ?_
            refine AllReadyH.cons rfl (fun K hK => ?_) AllReadyH.nil
            go_simp
            obtain ⟨nb, hnb⟩ : ∃ X, X = w13.heap.size := ⟨_, rfl⟩
            obtain ⟨wA, hwA⟩ : ∃ X, X = w13.alloc (.cells #[.int .i64 0, .slice none 0 0] 26) := ⟨_, rfl⟩
            have HNB : Hid (wA.heap[nb]? = some (.cells #[.int .i64 0, .slice none 0 0] 26)) := hid (by rw [hwA, hnb]; exact heap_alloc_new _ _)
            have hbA : Below w13.heap.size w13 wA := by rw [hwA]; exact (Below.refl _ _).alloc (Nat.le_refl _) _
            have hnbw : w0.heap.size ≤ nb := by rw [hnb]; exact hHeld.step.size
            have hnbv : nb ≠ vb := by have := (Array.getElem?_eq_some_iff.1 hHeld.box).1; omega
            have hnbg : nb ≠ g := by have := (hHeld.row.lt g rfl).2; omega
            have hnbb : nb ≠ b := by omega
            have HNE : Hid ((Value.slice p2 W2.length c2).ownBlock ≠ some nb) := hid (fun e => by have := (HOW.out.lt nb e).2; omega)
            have HOW := hid (own_below HOW.out hbA)
            refine hK.out _ _ (hHeld.on hbw0 ((Below.refl _ _).alloc (Nat.le_refl _) _)) (fun hHeld => ?_)
            clear hK K
            rw [← hwA] at hHeld ⊢
            try rw [← hnb]
            clear hwA hnb hbA
            try simp only [Act.put, List.setIfInBounds_toArray, List.set_cons_zero, List.set_cons_succ]
            refine wpAnyH_ready (rs := [13]) (by kernel_rfl) (by simp) ?_
            refine AllReadyH.cons rfl (fun K hK => ?_) AllReadyH.nil
            obtain ⟨j0, j1⟩ := var_cells HNB.out
            have f0 := var_thaw HNB.out 0
            have f1 := var_thaw HNB.out 1
            go_simp
            refine hK.out _ _ (NvG.other (NvG.other hHeld hbw0 HOLD.out hnbw hnbv hnbg 0 _) hbw0 HOLD.out hnbw hnbv hnbg 1 _) (fun hHeld => ?_)
            clear hK K j0 j1 f0 f1
            try simp only [Act.put, List.setIfInBounds_toArray, List.set_cons_zero, List.set_cons_succ]
            have HNB2 := hid (nv_box_put HNB.out (.int .i64 s2) (.slice p2 W2.length c2))
            have HOW2 := hid (ownsRow_setCell_other (ownsRow_setCell_other HOW.out (a := ⟨nb, 0, none⟩) HNE.out (.int .i64 s2)) (a := ⟨nb, 1, none⟩) HNE.out (.slice p2 W2.length c2))
            obtain ⟨wZ, hwZ⟩ : ∃ X, X = (wA.setCell ⟨nb, 0, none⟩ (.int .i64 s2)).setCell ⟨nb, 1, none⟩ (.slice p2 W2.length c2) := ⟨_, rfl⟩
            rw [← hwZ] at hHeld HNB2 HOW2 ⊢
            clear hwZ HNB HOW HNE
            refine take_nv (i := 14) 8 (v := ?_) rfl rfl (by kernel_rfl) (by kernel_rfl) (by kernel_rfl) (fun _ _ _ h => h) (Or.inl ⟨by rfl, ?_⟩) (by assumption) ?_
            case refine_2 => ((intro w hSw); (try dsimp only at hSw); go_simp; (try with_reducible rfl))
            try simp only [Act.put, List.setIfInBounds_toArray, List.set_cons_zero, List.set_cons_succ]
            refine wpAnyH_done (by kernel_rfl) ?_ _
            cases ok with
            | false =>
              go_wp2
              go_roundw
              case rel => exact ⟨k2, g, cap, W, by omega, by go_num, HLW, hid hHeld⟩
              case measure => simp [RowKit.intOf]
            | true =>
              obtain ⟨rfl, hlen⟩ := HOK.out rfl
              obtain ⟨g2, cc, e2, hg2, hg3⟩ := own_form HOW2.out (by have := HLW.out; omega)
              injection e2 with e2 _ e3
              subst e2 e3
              have hvg : vb ≠ g2 := fun e => HVE.out (by rw [e]; rfl)
              obtain ⟨j0, j1⟩ := var_cells HNB2.out
              obtain ⟨d0, d1⟩ := var_cells hHeld.box
              have f0 := var_thaw hHeld.box 0
              have f1 := var_thaw hHeld.box 1
              have HGZ := hid (NvG.make (m2 := (m : Int)) hHeld.box hHeld.here hHeld.reader hHeld.step hbw0 HOLD.out HOW2.out hvg)
              have HLW2 := hid (hlen.trans HLW.out)
              clear hlen hHeld
              go_wp2
              go_roundw
              case rel => exact ⟨k2, g2, _, W2, by omega, by go_num, HLW2, HGZ⟩
              case measure => simp [RowKit.intOf]
          · go_simp
            obtain ⟨nb, hnb⟩ : ∃ X, X = w12.heap.size := ⟨_, rfl⟩
            obtain ⟨wA, hwA⟩ : ∃ X, X = w12.alloc (.cells #[.int .i64 0, .slice none 0 0] 26) := ⟨_, rfl⟩
            have HNB : Hid (wA.heap[nb]? = some (.cells #[.int .i64 0, .slice none 0 0] 26)) := hid (by rw [hwA, hnb]; exact heap_alloc_new _ _)
            have hbA : Below w12.heap.size w12 wA := by rw [hwA]; exact (Below.refl _ _).alloc (Nat.le_refl _) _
            have hnbw : w0.heap.size ≤ nb := by rw [hnb]; exact hHeld.step.size
            have hnbv : nb ≠ vb := by have := (Array.getElem?_eq_some_iff.1 hHeld.box).1; omega
            have hnbg : nb ≠ g := by have := (hHeld.row.lt g rfl).2; omega
            have hnbb : nb ≠ b := by omega
            have HRL := hid (HRL.out.on hbA)
            refine hK.out _ _ (hHeld.on hbw0 ((Below.refl _ _).alloc (Nat.le_refl _) _)) (fun hHeld => ?_)
            clear hK K
            rw [← hwA] at hHeld ⊢
            try rw [← hnb]
            clear hwA hnb hbA
            try simp only [Act.put, List.setIfInBounds_toArray, List.set_cons_zero, List.set_cons_succ]
            refine wpAnyH_ready (rs := [8]) (by kernel_rfl) (by simp) ?_
            refine AllReadyH.cons rfl (fun K hK => ?_) AllReadyH.nil
            go_simp
            go_at_call 6
            refine (put_n m W l (by have := HLW.out; omega) (by have := HLL.out; omega) x (by omega) _ _ _ (row_in_own2 rfl hHeld.row) HRL.out (fun c h => by cases h)).mono ?_
            unfold PutN
            rintro e w13 ⟨s2, W2, ok, p2, c2, rfl, hb, ho, hok⟩
            have HOW := hid (own_raise ho hHeld.step.size)
            have HOK := hid hok
            have hvlt := (Array.getElem?_eq_some_iff.1 hHeld.box).1
            have HVE : Hid ((Value.slice p2 W2.length c2).ownBlock ≠ some vb) := hid (fun e => by have := (ho.lt vb e).1; omega)
            have hnlt := (Array.getElem?_eq_some_iff.1 HNB.out).1
            have HNE : Hid ((Value.slice p2 W2.length c2).ownBlock ≠ some nb) := hid (fun e => by have := (ho.lt nb e).1; omega)
            have HNB := hid ((hb.block nb (Array.getElem?_eq_some_iff.1 HNB.out).1).trans HNB.out)
            have hS7 := hHeld.on hbw0 hb
            clear hb ho hok hvlt
            clear hnlt
            go_wp2_with fail
            refine hK.out _ _ hS7 (fun hHeld => ?_)
            clear hK K hS7
            try simp only [Act.put, List.setIfInBounds_toArray, List.set_cons_zero, List.set_cons_succ]
            refine take_nv (i := 9) 26 (v := ?_) rfl rfl (by kernel_rfl) (by kernel_rfl) (by kernel_rfl) (fun _ _ _ h => h) (Or.inl ⟨by rfl, ?_⟩) (by assumption) ?_
            case refine_2 => ((intro w hSw); (try dsimp only at hSw); go_simp; (try with_reducible rfl))
            try simp only [Act.put, List.setIfInBounds_toArray, List.set_cons_zero, List.set_cons_succ]
            refine take_nv (i := 10) 36 (v := ?_) rfl rfl (by kernel_rfl) (by kernel_rfl) (by kernel_rfl) (fun _ _ _ h => h) (Or.inl ⟨by rfl, ?_⟩) (by assumption) ?_
            case refine_2 => ((intro w hSw); (try dsimp only at hSw); go_simp; (try with_reducible rfl))
            try simp only [Act.put, List.setIfInBounds_toArray, List.set_cons_zero, List.set_cons_succ]
            refine take_nv (i := 11) 37 (v := ?_) rfl rfl (by kernel_rfl) (by kernel_rfl) (by kernel_rfl) (fun _ _ _ h => h) (Or.inl ⟨by rfl, ?_⟩) (by assumption) ?_
            case refine_2 => ((intro w hSw); (try dsimp only at hSw); go_simp; (try with_reducible rfl))
            try simp only [Act.put, List.setIfInBounds_toArray, List.set_cons_zero, List.set_cons_succ]
            refine wpAnyH_ready (rs := [13]) (by kernel_rfl) (by simp) ?_
            refine AllReadyH.cons rfl (fun K hK => ?_) AllReadyH.nil
            obtain ⟨j0, j1⟩ := var_cells HNB.out
            have f0 := var_thaw HNB.out 0
            have f1 := var_thaw HNB.out 1
            go_simp
            refine hK.out _ _ (NvG.other (NvG.other hHeld hbw0 HOLD.out hnbw hnbv hnbg 0 _) hbw0 HOLD.out hnbw hnbv hnbg 1 _) (fun hHeld => ?_)
            clear hK K j0 j1 f0 f1
            try simp only [Act.put, List.setIfInBounds_toArray, List.set_cons_zero, List.set_cons_succ]
            have HNB2 := hid (nv_box_put HNB.out (.int .i64 s2) (.slice p2 W2.length c2))
            have HOW2 := hid (ownsRow_setCell_other (ownsRow_setCell_other HOW.out (a := ⟨nb, 0, none⟩) HNE.out (.int .i64 s2)) (a := ⟨nb, 1, none⟩) HNE.out (.slice p2 W2.length c2))
            obtain ⟨wZ, hwZ⟩ : ∃ X, X = (w13.setCell ⟨nb, 0, none⟩ (.int .i64 s2)).setCell ⟨nb, 1, none⟩ (.slice p2 W2.length c2) := ⟨_, rfl⟩
            rw [← hwZ] at hHeld HNB2 HOW2 ⊢
            clear hwZ HNB HOW HNE
            refine take_nv (i := 14) 8 (v := ?_) rfl rfl (by kernel_rfl) (by kernel_rfl) (by kernel_rfl) (fun _ _ _ h => h) (Or.inl ⟨by rfl, ?_⟩) (by assumption) ?_
            case refine_2 => ((intro w hSw); (try dsimp only at hSw); go_simp; (try with_reducible rfl))
            try simp only [Act.put, List.setIfInBounds_toArray, List.set_cons_zero, List.set_cons_succ]
            refine wpAnyH_done (by kernel_rfl) ?_ _
            cases ok with
            | false =>
              go_wp2
              go_roundw
              case rel => exact ⟨k2, g, cap, W, by omega, by go_num, HLW, hid hHeld⟩
              case measure => simp [RowKit.intOf]
            | true =>
              obtain ⟨rfl, hlen⟩ := HOK.out rfl
              obtain ⟨g2, cc, e2, hg2, hg3⟩ := own_form HOW2.out (by have := HLW.out; omega)
              injection e2 with e2 _ e3
              subst e2 e3
              have hvg : vb ≠ g2 := fun e => HVE.out (by rw [e]; rfl)
              obtain ⟨j0, j1⟩ := var_cells HNB2.out
              obtain ⟨d0, d1⟩ := var_cells hHeld.box
              have f0 := var_thaw hHeld.box 0
              have f1 := var_thaw hHeld.box 1
              have HGZ := hid (NvG.make (m2 := (m : Int)) hHeld.box hHeld.here hHeld.reader hHeld.step hbw0 HOLD.out HOW2.out hvg)
              have HLW2 := hid (hlen.trans HLW.out)
              clear hlen hHeld
              go_wp2
              go_roundw
              case rel => exact ⟨k2, g2, _, W2, by omega, by go_num, HLW2, HGZ⟩
              case measure => simp [RowKit.intOf]
        · go_simp
          obtain ⟨nb, hnb⟩ : ∃ X, X = w11.heap.size := ⟨_, rfl⟩
          obtain ⟨wA, hwA⟩ : ∃ X, X = w11.alloc (.cells #[.int .i64 0, .slice none 0 0] 26) := ⟨_, rfl⟩
          have HNB : Hid (wA.heap[nb]? = some (.cells #[.int .i64 0, .slice none 0 0] 26)) := hid (by rw [hwA, hnb]; exact heap_alloc_new _ _)
          have hbA : Below w11.heap.size w11 wA := by rw [hwA]; exact (Below.refl _ _).alloc (Nat.le_refl _) _
          have hnbw : w0.heap.size ≤ nb := by rw [hnb]; exact hHeld.step.size
          have hnbv : nb ≠ vb := by have := (Array.getElem?_eq_some_iff.1 hHeld.box).1; omega
          have hnbg : nb ≠ g := by have := (hHeld.row.lt g rfl).2; omega
          have hnbb : nb ≠ b := by omega
          have HRL := hid (HRL.out.on hbA)
          refine hK.out _ _ (hHeld.on hbw0 ((Below.refl _ _).alloc (Nat.le_refl _) _)) (fun hHeld => ?_)
          clear hK K
          rw [← hwA] at hHeld ⊢
          try rw [← hnb]
          clear hwA hnb hbA
          try simp only [Act.put, List.setIfInBounds_toArray, List.set_cons_zero, List.set_cons_succ]
          refine wpAnyH_ready (rs := [7]) (by kernel_rfl) (by simp) ?_
          refine AllReadyH.cons rfl (fun K hK => ?_) AllReadyH.nil
          go_simp
          go_at_call 24
          rw [show IntKind.i64.wrap ((m : Int) + 5) = (m : Int) + 5 by rw [IntKind.wrap_i64]; omega]
          refine (d_below ((m : Int) + 5) (by omega) _ _ _ _ _ hHeld.reader).mono ?_
          rintro e w12 ⟨x, rfl, ⟨hx0, hx1⟩, hr, hs⟩
          have hxm := hx1 (by omega)
          have HRL := hid (nv_row_step HRL.out hglb hs)
          have HNB := hid ((hs.block nb (Array.getElem?_eq_some_iff.1 HNB.out).1 (by omega)).trans HNB.out)
          have hS7 := hHeld.call hbw0 hr hs
          clear hr hs hx1
          go_wp2_with fail
          refine hK.out _ _ hS7 (fun hHeld => ?_)
          clear hK K hS7
          try simp only [Act.put, List.setIfInBounds_toArray, List.set_cons_zero, List.set_cons_succ]
          refine wpAnyH_ready (rs := [8]) (by kernel_rfl) (by simp) ?_
          refine AllReadyH.cons rfl (fun K hK => ?_) AllReadyH.nil
          go_simp
          go_at_call 6
          refine (put_n m W l (by have := HLW.out; omega) (by have := HLL.out; omega) x (by omega) _ _ _ (row_in_own2 rfl hHeld.row) HRL.out (fun c h => by cases h)).mono ?_
          unfold PutN
          rintro e w13 ⟨s2, W2, ok, p2, c2, rfl, hb, ho, hok⟩
          have HOW := hid (own_raise ho hHeld.step.size)
          have HOK := hid hok
          have hvlt := (Array.getElem?_eq_some_iff.1 hHeld.box).1
          have HVE : Hid ((Value.slice p2 W2.length c2).ownBlock ≠ some vb) := hid (fun e => by have := (ho.lt vb e).1; omega)
          have hnlt := (Array.getElem?_eq_some_iff.1 HNB.out).1
          have HNE : Hid ((Value.slice p2 W2.length c2).ownBlock ≠ some nb) := hid (fun e => by have := (ho.lt nb e).1; omega)
          have HNB := hid ((hb.block nb (Array.getElem?_eq_some_iff.1 HNB.out).1).trans HNB.out)
          have hS7 := hHeld.on hbw0 hb
          clear hb ho hok hvlt
          clear hnlt
          go_wp2_with fail
          refine hK.out _ _ hS7 (fun hHeld => ?_)
          clear hK K hS7
          try simp only [Act.put, List.setIfInBounds_toArray, List.set_cons_zero, List.set_cons_succ]
          refine take_nv (i := 9) 26 (v := ?_) rfl rfl (by kernel_rfl) (by kernel_rfl) (by kernel_rfl) (fun _ _ _ h => h) (Or.inl ⟨by rfl, ?_⟩) (by assumption) ?_
          case refine_2 => ((intro w hSw); (try dsimp only at hSw); go_simp; (try with_reducible rfl))
          try simp only [Act.put, List.setIfInBounds_toArray, List.set_cons_zero, List.set_cons_succ]
          refine take_nv (i := 10) 36 (v := ?_) rfl rfl (by kernel_rfl) (by kernel_rfl) (by kernel_rfl) (fun _ _ _ h => h) (Or.inl ⟨by rfl, ?_⟩) (by assumption) ?_
          case refine_2 => ((intro w hSw); (try dsimp only at hSw); go_simp; (try with_reducible rfl))
          try simp only [Act.put, List.setIfInBounds_toArray, List.set_cons_zero, List.set_cons_succ]
          refine take_nv (i := 11) 37 (v := ?_) rfl rfl (by kernel_rfl) (by kernel_rfl) (by kernel_rfl) (fun _ _ _ h => h) (Or.inl ⟨by rfl, ?_⟩) (by assumption) ?_
          case refine_2 => ((intro w hSw); (try dsimp only at hSw); go_simp; (try with_reducible rfl))
          try simp only [Act.put, List.setIfInBounds_toArray, List.set_cons_zero, List.set_cons_succ]
          refine wpAnyH_ready (rs := [13]) (by kernel_rfl) (by simp) ?_
          refine AllReadyH.cons rfl (fun K hK => ?_) AllReadyH.nil
          obtain ⟨j0, j1⟩ := var_cells HNB.out
          have f0 := var_thaw HNB.out 0
          have f1 := var_thaw HNB.out 1
          go_simp
          refine hK.out _ _ (NvG.other (NvG.other hHeld hbw0 HOLD.out hnbw hnbv hnbg 0 _) hbw0 HOLD.out hnbw hnbv hnbg 1 _) (fun hHeld => ?_)
          clear hK K j0 j1 f0 f1
          try simp only [Act.put, List.setIfInBounds_toArray, List.set_cons_zero, List.set_cons_succ]
          have HNB2 := hid (nv_box_put HNB.out (.int .i64 s2) (.slice p2 W2.length c2))
          have HOW2 := hid (ownsRow_setCell_other (ownsRow_setCell_other HOW.out (a := ⟨nb, 0, none⟩) HNE.out (.int .i64 s2)) (a := ⟨nb, 1, none⟩) HNE.out (.slice p2 W2.length c2))
          obtain ⟨wZ, hwZ⟩ : ∃ X, X = (w13.setCell ⟨nb, 0, none⟩ (.int .i64 s2)).setCell ⟨nb, 1, none⟩ (.slice p2 W2.length c2) := ⟨_, rfl⟩
          rw [← hwZ] at hHeld HNB2 HOW2 ⊢
          clear hwZ HNB HOW HNE
          refine take_nv (i := 14) 8 (v := ?_) rfl rfl (by kernel_rfl) (by kernel_rfl) (by kernel_rfl) (fun _ _ _ h => h) (Or.inl ⟨by rfl, ?_⟩) (by assumption) ?_
          case refine_2 => ((intro w hSw); (try dsimp only at hSw); go_simp; (try with_reducible rfl))
          try simp only [Act.put, List.setIfInBounds_toArray, List.set_cons_zero, List.set_cons_succ]
          refine wpAnyH_done (by kernel_rfl) ?_ _
          cases ok with
          | false =>
            go_wp2
            go_roundw
            case rel => exact ⟨k2, g, cap, W, by omega, by go_num, HLW, hid hHeld⟩
            case measure => simp [RowKit.intOf]
          | true =>
            obtain ⟨rfl, hlen⟩ := HOK.out rfl
            obtain ⟨g2, cc, e2, hg2, hg3⟩ := own_form HOW2.out (by have := HLW.out; omega)
            injection e2 with e2 _ e3
            subst e2 e3
            have hvg : vb ≠ g2 := fun e => HVE.out (by rw [e]; rfl)
            obtain ⟨j0, j1⟩ := var_cells HNB2.out
            obtain ⟨d0, d1⟩ := var_cells hHeld.box
            have f0 := var_thaw hHeld.box 0
            have f1 := var_thaw hHeld.box 1
            have HGZ := hid (NvG.make (m2 := (m : Int)) hHeld.box hHeld.here hHeld.reader hHeld.step hbw0 HOLD.out HOW2.out hvg)
            have HLW2 := hid (hlen.trans HLW.out)
            clear hlen hHeld
            go_wp2
            go_roundw
            case rel => exact ⟨k2, g2, _, W2, by omega, by go_num, HLW2, HGZ⟩
            case measure => simp [RowKit.intOf]
      · go_simp
        obtain ⟨nb, hnb⟩ : ∃ X, X = wd.heap.size := ⟨_, rfl⟩
        obtain ⟨wA, hwA⟩ : ∃ X, X = wd.alloc (.cells #[.int .i64 0, .slice none 0 0] 26) := ⟨_, rfl⟩
        have HNB : Hid (wA.heap[nb]? = some (.cells #[.int .i64 0, .slice none 0 0] 26)) := hid (by rw [hwA, hnb]; exact heap_alloc_new _ _)
        have hbA : Below wd.heap.size wd wA := by rw [hwA]; exact (Below.refl _ _).alloc (Nat.le_refl _) _
        have hnbw : w0.heap.size ≤ nb := by rw [hnb]; exact hHeld.step.size
        have hnbv : nb ≠ vb := by have := (Array.getElem?_eq_some_iff.1 hHeld.box).1; omega
        have hnbg : nb ≠ g := by have := (hHeld.row.lt g rfl).2; omega
        have hnbb : nb ≠ b := by omega
        refine hK.out _ _ (hHeld.on hbw0 ((Below.refl _ _).alloc (Nat.le_refl _) _)) (fun hHeld => ?_)
        clear hK K
        rw [← hwA] at hHeld ⊢
        try rw [← hnb]
        clear hwA hnb hbA
        try simp only [Act.put, List.setIfInBounds_toArray, List.set_cons_zero, List.set_cons_succ]
        refine wpAnyH_ready (rs := [3]) (by kernel_rfl) (by simp) ?_
        refine AllReadyH.cons rfl (fun K hK => ?_) AllReadyH.nil
        go_simp
        go_at_call 23
        refine (d_numbers m (by omega) _ _ _ _ _ hHeld.reader).mono ?_
        rintro e w11 ⟨v, l, rfl, hl, hg⟩
        obtain ⟨gl, cl, rfl, hgl, _⟩ := own_form hg.own (by omega)
        have hglb : gl ≠ b := by have := hHeld.step.size; omega
        have HRL := hid (row_in_own2 rfl hg.own)
        have HLL := hid hl
        have HNB := hid ((hg.step.block nb (Array.getElem?_eq_some_iff.1 HNB.out).1 (by omega)).trans HNB.out)
        have hS7 := hHeld.call hbw0 hg.reader hg.step
        clear hg hl
        go_wp2_with fail
        refine hK.out _ _ hS7 (fun hHeld => ?_)
        clear hK K hS7
        try simp only [Act.put, List.setIfInBounds_toArray, List.set_cons_zero, List.set_cons_succ]
        refine wpAnyH_ready (rs := [7]) (by kernel_rfl) (by simp) ?_
        refine AllReadyH.cons rfl (fun K hK => ?_) AllReadyH.nil
        go_simp
        go_at_call 24
        rw [show IntKind.i64.wrap ((m : Int) + 5) = (m : Int) + 5 by rw [IntKind.wrap_i64]; omega]
        refine (d_below ((m : Int) + 5) (by omega) _ _ _ _ _ hHeld.reader).mono ?_
        rintro e w12 ⟨x, rfl, ⟨hx0, hx1⟩, hr, hs⟩
        have hxm := hx1 (by omega)
        have HRL := hid (nv_row_step HRL.out hglb hs)
        have HNB := hid ((hs.block nb (Array.getElem?_eq_some_iff.1 HNB.out).1 (by omega)).trans HNB.out)
        have hS7 := hHeld.call hbw0 hr hs
        clear hr hs hx1
        go_wp2_with fail
        refine hK.out _ _ hS7 (fun hHeld => ?_)
        clear hK K hS7
        try simp only [Act.put, List.setIfInBounds_toArray, List.set_cons_zero, List.set_cons_succ]
        refine wpAnyH_ready (rs := [8]) (by kernel_rfl) (by simp) ?_
        refine AllReadyH.cons rfl (fun K hK => ?_) AllReadyH.nil
        go_simp
        go_at_call 6
        refine (put_n m W l (by have := HLW.out; omega) (by have := HLL.out; omega) x (by omega) _ _ _ (row_in_own2 rfl hHeld.row) HRL.out (fun c h => by cases h)).mono ?_
        unfold PutN
        rintro e w13 ⟨s2, W2, ok, p2, c2, rfl, hb, ho, hok⟩
        have HOW := hid (own_raise ho hHeld.step.size)
        have HOK := hid hok
        have hvlt := (Array.getElem?_eq_some_iff.1 hHeld.box).1
        have HVE : Hid ((Value.slice p2 W2.length c2).ownBlock ≠ some vb) := hid (fun e => by have := (ho.lt vb e).1; omega)
        have hnlt := (Array.getElem?_eq_some_iff.1 HNB.out).1
        have HNE : Hid ((Value.slice p2 W2.length c2).ownBlock ≠ some nb) := hid (fun e => by have := (ho.lt nb e).1; omega)
        have HNB := hid ((hb.block nb (Array.getElem?_eq_some_iff.1 HNB.out).1).trans HNB.out)
        have hS7 := hHeld.on hbw0 hb
        clear hb ho hok hvlt
        clear hnlt
        go_wp2_with fail
        refine hK.out _ _ hS7 (fun hHeld => ?_)
        clear hK K hS7
        try simp only [Act.put, List.setIfInBounds_toArray, List.set_cons_zero, List.set_cons_succ]
        refine take_nv (i := 9) 26 (v := ?_) rfl rfl (by kernel_rfl) (by kernel_rfl) (by kernel_rfl) (fun _ _ _ h => h) (Or.inl ⟨by rfl, ?_⟩) (by assumption) ?_
        case refine_2 => ((intro w hSw); (try dsimp only at hSw); go_simp; (try with_reducible rfl))
        try simp only [Act.put, List.setIfInBounds_toArray, List.set_cons_zero, List.set_cons_succ]
        refine take_nv (i := 10) 36 (v := ?_) rfl rfl (by kernel_rfl) (by kernel_rfl) (by kernel_rfl) (fun _ _ _ h => h) (Or.inl ⟨by rfl, ?_⟩) (by assumption) ?_
        case refine_2 => ((intro w hSw); (try dsimp only at hSw); go_simp; (try with_reducible rfl))
        try simp only [Act.put, List.setIfInBounds_toArray, List.set_cons_zero, List.set_cons_succ]
        refine take_nv (i := 11) 37 (v := ?_) rfl rfl (by kernel_rfl) (by kernel_rfl) (by kernel_rfl) (fun _ _ _ h => h) (Or.inl ⟨by rfl, ?_⟩) (by assumption) ?_
        case refine_2 => ((intro w hSw); (try dsimp only at hSw); go_simp; (try with_reducible rfl))
        try simp only [Act.put, List.setIfInBounds_toArray, List.set_cons_zero, List.set_cons_succ]
        refine wpAnyH_ready (rs := [13]) (by kernel_rfl) (by simp) ?_
        refine AllReadyH.cons rfl (fun K hK => ?_) AllReadyH.nil
        obtain ⟨j0, j1⟩ := var_cells HNB.out
        have f0 := var_thaw HNB.out 0
        have f1 := var_thaw HNB.out 1
        go_simp
        refine hK.out _ _ (NvG.other (NvG.other hHeld hbw0 HOLD.out hnbw hnbv hnbg 0 _) hbw0 HOLD.out hnbw hnbv hnbg 1 _) (fun hHeld => ?_)
        clear hK K j0 j1 f0 f1
        try simp only [Act.put, List.setIfInBounds_toArray, List.set_cons_zero, List.set_cons_succ]
        have HNB2 := hid (nv_box_put HNB.out (.int .i64 s2) (.slice p2 W2.length c2))
        have HOW2 := hid (ownsRow_setCell_other (ownsRow_setCell_other HOW.out (a := ⟨nb, 0, none⟩) HNE.out (.int .i64 s2)) (a := ⟨nb, 1, none⟩) HNE.out (.slice p2 W2.length c2))
        obtain ⟨wZ, hwZ⟩ : ∃ X, X = (w13.setCell ⟨nb, 0, none⟩ (.int .i64 s2)).setCell ⟨nb, 1, none⟩ (.slice p2 W2.length c2) := ⟨_, rfl⟩
        rw [← hwZ] at hHeld HNB2 HOW2 ⊢
        clear hwZ HNB HOW HNE
        refine take_nv (i := 14) 8 (v := ?_) rfl rfl (by kernel_rfl) (by kernel_rfl) (by kernel_rfl) (fun _ _ _ h => h) (Or.inl ⟨by rfl, ?_⟩) (by assumption) ?_
        case refine_2 => ((intro w hSw); (try dsimp only at hSw); go_simp; (try with_reducible rfl))
        try simp only [Act.put, List.setIfInBounds_toArray, List.set_cons_zero, List.set_cons_succ]
        refine wpAnyH_done (by kernel_rfl) ?_ _
        cases ok with
        | false =>
          go_wp2
          go_roundw
          case rel => exact ⟨k2, g, cap, W, by omega, by go_num, HLW, hid hHeld⟩
          case measure => simp [RowKit.intOf]
        | true =>
          obtain ⟨rfl, hlen⟩ := HOK.out rfl
          obtain ⟨g2, cc, e2, hg2, hg3⟩ := own_form HOW2.out (by have := HLW.out; omega)
          injection e2 with e2 _ e3
          subst e2 e3
          have hvg : vb ≠ g2 := fun e => HVE.out (by rw [e]; rfl)
          obtain ⟨j0, j1⟩ := var_cells HNB2.out
          obtain ⟨d0, d1⟩ := var_cells hHeld.box
          have f0 := var_thaw hHeld.box 0
          have f1 := var_thaw hHeld.box 1
          have HGZ := hid (NvG.make (m2 := (m : Int)) hHeld.box hHeld.here hHeld.reader hHeld.step hbw0 HOLD.out HOW2.out hvg)
          have HLW2 := hid (hlen.trans HLW.out)
          clear hlen hHeld
          go_wp2
          go_roundw
          case rel => exact ⟨k2, g2, _, W2, by omega, by go_num, HLW2, HGZ⟩
          case measure => simp [RowKit.intOf]
    · have hk0 : ¬ (0 : Int) < (k : Int) := by omega
      go_wp2_with (go_at_call 24; refine (d_below 24 (by omega) _ _ _ _ _ HG.out.reader).mono ?_; rintro e w20 ⟨x, rfl, ⟨hx0, hx1⟩, hr, hs⟩; refine Hid.out ?_)
      refine hid ?_
      have HG20 := hid (HG.out.call hbw0 hr hs)
      clear hr hs hx1 HG
      have hwl : W.length ≤ 100 := by have := HLW.out; omega
      have hnew : w.heap.size ≠ b := by omega
      obtain ⟨d0, d1⟩ := var_cells HG20.out.box
      have f0 := var_thaw HG20.out.box 0
      have f1 := var_thaw HG20.out.box 1
      have HRB := hid ((HG20.out.step.block w.heap.size (by omega) hnew).trans HBX0.out)
      have hgw : ∀ {V : World} {p2 : Option Addr} {k2 cc2 : Nat} {xs : List Value}, V.ownsRow w0.heap.size 2 1 (.slice p2 k2 cc2) k2 xs → ∀ g2 o2, p2 = some ⟨g2, o2, none⟩ → w.heap.size < g2 := by
        intro V p2 k2 cc2 xs h g2 o2 e
        subst e
        have := (h.lt g2 rfl).1
        omega
      by_cases h0 : x = 0
      · subst h0
        have hw6 : 6 ≤ W.length := by have := HLW.out; omega
        go_upto_region 11 with (fail)
        refine wp_region_held_drew (S := fun w' => ∃ U : List Int, U.length = W.length ∧ NvG w0 b q n c vb g cap m U w') (by kernel_rfl) ⟨W, rfl, NvG.drew HG20.out⟩ (fun hHeld => ?_)
        obtain ⟨wd, hwd⟩ : ∃ X, X = w20.drew := ⟨_, rfl⟩
        rw [← hwd] at hHeld ⊢
        clear hwd d0 d1 f0 f1
        refine take_nv (i := 0) 44 (v := ?_) rfl rfl (by kernel_rfl) (by kernel_rfl) (by kernel_rfl) (fun _ _ _ h => h) (Or.inl ⟨by rfl, ?_⟩) (by assumption) ?_
        case refine_2 => ((intro w hSw); (try dsimp only at hSw); go_simp; (try with_reducible rfl))
        try simp only [Act.put, List.setIfInBounds_toArray, List.set_cons_zero, List.set_cons_succ]
        refine take_nv (i := 1) 45 (v := ?_) rfl rfl (by kernel_rfl) (by kernel_rfl) (by kernel_rfl) (fun _ _ _ h => h) (Or.inl ⟨by rfl, ?_⟩) (by assumption) ?_
        case refine_2 => ((intro w hSw); (try dsimp only at hSw); obtain ⟨U, hU, hN⟩ := hSw; obtain ⟨d0, d1⟩ := var_cells hN.box; rw [hU] at d1; go_simp; (try with_reducible rfl))
        try simp only [Act.put, List.setIfInBounds_toArray, List.set_cons_zero, List.set_cons_succ]
        refine take_nv (i := 2) 46 (v := ?_) rfl rfl (by kernel_rfl) (by kernel_rfl) (by kernel_rfl) (fun _ _ _ h => h) (Or.inl ⟨by rfl, ?_⟩) (by assumption) ?_
        case refine_2 => ((intro w hSw); (try dsimp only at hSw); go_simp; (try with_reducible rfl))
        try simp only [Act.put, List.setIfInBounds_toArray, List.set_cons_zero, List.set_cons_succ]
        refine take_nv (i := 3) 47 (v := ?_) rfl rfl (by kernel_rfl) (by kernel_rfl) (by kernel_rfl) (fun _ _ _ h => h) (Or.inl ⟨by rfl, ?_⟩) (by assumption) ?_
        case refine_2 => ((intro w hSw); (try dsimp only at hSw); go_simp; (try with_reducible rfl))
        try simp only [Act.put, List.setIfInBounds_toArray, List.set_cons_zero, List.set_cons_succ]
        refine take_nv (i := 4) 48 (v := ?_) rfl rfl (by kernel_rfl) (by kernel_rfl) (by kernel_rfl) (fun _ _ _ h => h) (Or.inl ⟨by rfl, ?_⟩) (by assumption) ?_
        case refine_2 => ((intro w hSw); (try dsimp only at hSw); obtain ⟨U, hU, hN⟩ := hSw; obtain ⟨d0, d1⟩ := var_cells hN.box; rw [hU] at d1; go_simp; (try with_reducible rfl))
        try simp only [Act.put, List.setIfInBounds_toArray, List.set_cons_zero, List.set_cons_succ]
        refine take_nv (i := 5) 49 (v := ?_) rfl rfl (by kernel_rfl) (by kernel_rfl) (by kernel_rfl) (fun _ _ _ h => h) (Or.inl ⟨by rfl, ?_⟩) (by assumption) ?_
        case refine_2 => ((intro w hSw); (try dsimp only at hSw); go_simp; (try with_reducible rfl))
        try simp only [Act.put, List.setIfInBounds_toArray, List.set_cons_zero, List.set_cons_succ]
        refine take_nv (i := 7) 51 (v := ?_) rfl rfl (by kernel_rfl) (by kernel_rfl) (by kernel_rfl) (fun _ _ _ h => h) (Or.inl ⟨by rfl, ?_⟩) (by assumption) ?_
        case refine_2 => ((intro w hSw); (try dsimp only at hSw); go_simp; (try with_reducible rfl))
        try simp only [Act.put, List.setIfInBounds_toArray, List.set_cons_zero, List.set_cons_succ]
        refine wpAnyH_ready (rs := [6]) (by kernel_rfl) (by simp) ?_
        refine AllReadyH.cons rfl (fun K hK => ?_) AllReadyH.nil
        go_simp
        go_at_call 24
        obtain ⟨U, hU, hN⟩ := hHeld
        refine (d_below (W.length : Int) (by omega) _ _ _ _ _ hN.reader).mono ?_
        rintro e w21 ⟨x, rfl, ⟨hx0, hx1⟩, hr, hs⟩
        have hxw := hx1 (by omega)
        obtain ⟨j, rfl⟩ := Int.eq_ofNat_of_zero_le hx0
        have hS7 : ∃ U : List Int, U.length = W.length ∧ NvG w0 b q n c vb g cap m U w21 := ⟨U, hU, hN.call hbw0 hr hs⟩
        clear hr hs hx1 hN hU U
        go_wp2_with fail
        refine hK.out _ _ hS7 (fun hHeld => ?_)
        clear hK K hS7
        try simp only [Act.put, List.setIfInBounds_toArray, List.set_cons_zero, List.set_cons_succ]
        refine wpAnyH_ready (rs := [8]) (by kernel_rfl) (by simp) ?_
        refine AllReadyH.cons rfl (fun K hK => ?_) AllReadyH.nil
        go_simp
        go_at_call 12
        obtain ⟨U, hU, hN⟩ := hHeld
        refine (d_off 0 1000000000 (by omega) (by omega) (by omega) (by omega) _ _ _ _ _ hN.reader).mono ?_
        rintro e w22 ⟨y, rfl, _, hr, hs⟩
        have hS7 : ∃ U : List Int, U.length = W.length ∧ NvG w0 b q n c vb g cap m U w22 := ⟨U, hU, hN.call hbw0 hr hs⟩
        clear hr hs hN hU U
        go_wp2_with fail
        refine hK.out _ _ hS7 (fun hHeld => ?_)
        clear hK K hS7
        try simp only [Act.put, List.setIfInBounds_toArray, List.set_cons_zero, List.set_cons_succ]
        have i0 : (0 : Int) ≤ (j : Int) := by omega
        refine take_nv (i := 9) 53 (v := ?_) rfl rfl (by kernel_rfl) (by kernel_rfl) (by kernel_rfl) (fun _ _ _ h => h) (Or.inl ⟨by rfl, ?_⟩) (by assumption) ?_
        case refine_2 => ((intro w hSw); (try dsimp only at hSw); go_simp; (try with_reducible rfl))
        try simp only [Act.put, List.setIfInBounds_toArray, List.set_cons_zero, List.set_cons_succ]
        refine wpAnyH_ready (rs := [10]) (by kernel_rfl) (by simp) ?_
        refine AllReadyH.cons rfl (fun K hK => ?_) AllReadyH.nil
        obtain ⟨U, hU, hN⟩ := hHeld
        have hjU : j < U.length := by omega
        have a0 := hN.row.cellAt j (by omega)
        rw [ints_at _ _ hjU] at a0
        have g0 := hN.row.frozenAt j
        go_simp
        have HNZ := hid (hN.put hbw0 HOLD.out (by have := (hN.row.lt g rfl).1; exact this) j y)
        have HUZ := hid (show (U.set j y).length = W.length by rw [List.length_set]; exact hU)
        refine hK.out _ _ ⟨U.set j y, HUZ.out, HNZ.out⟩ (fun hHeld => ?_)
        clear hK K a0 g0 hHeld hN
        try simp only [Act.put, List.setIfInBounds_toArray, List.set_cons_zero, List.set_cons_succ]
        obtain ⟨wZ, hwZ⟩ : ∃ X, X = w22.setCell ⟨g, j, none⟩ (.int .i64 y) := ⟨_, rfl⟩
        rw [← hwZ] at HNZ ⊢
        clear hwZ
        refine wpAnyH_done (by kernel_rfl) ?_ _
        generalize U.set j y = U2 at *
        obtain ⟨d0, d1⟩ := var_cells HNZ.out.box
        have HRZ := hid ((HNZ.out.step.block w.heap.size (by omega) hnew).trans HBX0.out)
        obtain ⟨r0, r1⟩ := var_cells HRZ.out
        have e0 := var_thaw HRZ.out 0
        have e1 := var_thaw HRZ.out 1
        go_wp2
        refine bodyPost_ret (v := .agg #[.int .i64 m, .slice (some ⟨g, 0, none⟩) U2.length cap]) (by simp [results, Try.results21, go_sem, r0, r1]) rfl ?_
        exact nv_fin HSW.out hbw HOLDW.out m (by omega) U2 (by rw [HUZ.out]; exact hwl) _ _ _ rfl (row_in_own2 rfl HNZ.out.row) (fun ad e => by injection e with e; subst e; exact hgw HNZ.out.row g 0 rfl) HNZ.out.reader HNZ.out.step
      · have b0 : (x == 0) = false := by rw [beq_eq_false_iff_ne]; exact h0
        by_cases h1 : x = 1
        · subst h1
          clear b0 h0 hx0
          go_wp2_with (go_at_call 12; refine (d_off 1 20 (by omega) (by omega) (by omega) (by omega) _ _ _ _ _ HG20.out.reader).mono ?_; rintro e w21 ⟨y, rfl, ⟨hy0, hy1⟩, hr, hs⟩; refine Hid.out ?_)
          refine hid ?_
          have HG21 := hid (HG20.out.call hbw0 hr hs)
          clear hr hs HG20 d0 d1 f0 f1 HRB
          obtain ⟨d0, d1⟩ := var_cells HG21.out.box
          have f0 := var_thaw HG21.out.box 0
          have HZ := hid (HG21.out.sized hbw0 HOLD.out y)
          have HRB := hid ((HZ.out.step.block w.heap.size (by omega) hnew).trans HBX0.out)
          obtain ⟨r0, r1⟩ := var_cells HRB.out
          have e0 := var_thaw HRB.out 0
          have e1 := var_thaw HRB.out 1
          obtain ⟨j0, j1⟩ := var_cells HZ.out.box
          go_wp2
          refine bodyPost_ret (v := .agg #[.int .i64 y, .slice (some ⟨g, 0, none⟩) W.length cap]) (by simp [results, Try.results21, go_sem, r0, r1]) rfl ?_
          exact nv_fin HSW.out hbw HOLDW.out y ⟨hy0, hy1⟩ W hwl _ _ _ rfl (row_in_own2 rfl HZ.out.row) (fun ad e => by injection e with e; subst e; exact hgw HZ.out.row g 0 rfl) HZ.out.reader HZ.out.step
        · have b1 : (x == 1) = false := by rw [beq_eq_false_iff_ne]; exact h1
          by_cases h2 : x = 2
          · subst h2
            clear b0 h0 b1 h1 hx0
            have hw6 : 6 ≤ W.length := by have := HLW.out; omega
            have hcap := nv_cap HG20.out.row
            have hc1 : ¬ cap = 1 := by omega
            have hwi : (1 : Int) ≤ (W.length : Int) := by omega
            have HT := hid (rowin_tail HG20.out.row rfl)
            have hfg := hgw HG20.out.row g 0 rfl
            have HZB := hid (heap_setCell_same w20 vb 1 _ _ (.slice (some ⟨g, 1, none⟩) (W.length - 1) (cap - 1)) HG20.out.box)
            have HRD := hid (nv_set_rd HG20.out.reader hbw0 HOLD.out HG20.out.here 1 (.slice (some ⟨g, 1, none⟩) (W.length - 1) (cap - 1)))
            have HSD := hid (nv_far HG20.out.step HG20.out.here 1 (.slice (some ⟨g, 1, none⟩) (W.length - 1) (cap - 1)))
            have HTZ := hid (rowin_set HT.out (x := vb) (fun ad e => by injection e with e; subst e; exact fun e => HG20.out.far e.symm) 1 (.slice (some ⟨g, 1, none⟩) (W.length - 1) (cap - 1)))
            have HRZ := hid ((HSD.out.block w.heap.size (by omega) hnew).trans HBX0.out)
            obtain ⟨r0, r1⟩ := var_cells HRZ.out
            have e0 := var_thaw HRZ.out 0
            have e1 := var_thaw HRZ.out 1
            obtain ⟨j0, j1⟩ := var_cells HZB.out
            go_wp2
            refine bodyPost_ret (v := .agg #[.int .i64 m, .slice (some ⟨g, 1, none⟩) (W.length - 1) (cap - 1)]) (by simp [results, Try.results21, go_sem, r0, r1]) rfl ?_
            exact nv_fin HSW.out hbw HOLDW.out m (by omega) (W.drop 1) (by rw [List.length_drop]; omega) _ _ _ (by rw [List.length_drop]) HTZ.out (fun ad e => by injection e with e; subst e; exact hfg) HRD.out HSD.out
          · have b2 : (x == 2) = false := by rw [beq_eq_false_iff_ne]; exact h2
            by_cases h3 : x = 3
            · subst h3
              clear b0 h0 b1 h1 b2 h2 hx0 d0 d1 f0 f1 HRB
              have hvbl := (Array.getElem?_eq_some_iff.1 HG20.out.box).1
              have hgl := (HG20.out.row.lt g rfl).2
              have hbl := HG20.out.reader.here
              have hz20 := HG20.out.step.size
              obtain ⟨lb, hlb⟩ : ∃ X, X = w20.heap.size := ⟨_, rfl⟩
              obtain ⟨wL, hwL⟩ : ∃ X, X = w20.alloc (.cells #[.int .i64 0] 2) := ⟨_, rfl⟩
              have HGL := hid (show NvG w0 b q n c vb g cap m W wL from by rw [hwL]; exact HG20.out.on hbw0 ((Below.refl _ _).alloc (Nat.le_refl _) _))
              have HOL := hid (show wL.ownsRow lb 2 1 (.slice (some ⟨lb, 0, none⟩) 1 1) 1 (ints [0]) from by
                rw [hwL, hlb]
                exact World.ownsRow_lit (base := w20.heap.size) (e := 2) (size := 1) w20 #[.int .i64 0] 1 (Nat.le_refl _) (by decide) rfl)
              have HWL := hid hwL
              clear hwL
              go_wp2_with (go_at_call 23; rw [← HWL.out]; refine (d_numbers m (by omega) _ _ _ _ _ HGL.out.reader).mono ?_; rintro e w21 ⟨v, l, rfl, hl, hg⟩; refine Hid.out ?_)
              refine hid ?_
              have HG21 := hid (HGL.out.call hbw0 hg.reader hg.step)
              have HO21 := hid (nv_own_step HOL.out (by omega) hg.step)
              have HVL := hid (row_in_own2 rfl hg.own)
              have HNB := hid hg.numb
              have HLL := hid hl
              have hz21 := hg.step.size
              have hlbz : lb < w21.heap.size := by have := (HO21.out.lt lb rfl).2; exact this
              obtain ⟨gl, cl, rfl, _, _⟩ := own_form hg.own (by omega)
              clear hg hl
              rw [← hlb]
              rw [← hlb] at hvbl hgl hbl hz20
              have HLB := hid hlb
              clear hlb
              go_wp2_with (first | (at_builtin; refine wp_append_ints rfl (.tmp 67) (.tmp 70) rfl lb _ 1 _ (by rfl) HO21.out _ l (by rfl) HVL.out (by have := HLL.out; omega) (by omega) (fun c h => by cases h) ?_))
              intro v1 w22 ho22 hg22 _
              have HG22 := hid (HG21.out.grown hbw0 HOLD.out (k := lb) hg22 (by omega) (by omega) (by omega))
              obtain ⟨k1, c1', rfl, hk1, hk2⟩ := own_form ho22 (by omega)
              have HO22 := hid ho22
              clear hg22 ho22
              go_wp2_with (go_at_call 24; refine (d_below 2 (by omega) _ _ _ _ _ HG22.out.reader).mono ?_; rintro e w23 ⟨x2, rfl, ⟨hy0, hy1⟩, hr, hs⟩; refine Hid.out ?_)
              refine hid ?_
              have hy2 := hy1 (by omega)
              have HG23 := hid (HG22.out.call hbw0 hr hs)
              have HO23 := hid (nv_own_step HO22.out (by omega) hs)
              have hz23 := hs.size
              clear hr hs hy1
              obtain ⟨wM, hwM⟩ : ∃ X, X = w23.alloc (.cells #[.int .i64 (1000000000 - x2)] 2) := ⟨_, rfl⟩
              have HGM := hid (show NvG w0 b q n c vb g cap m W wM from by rw [hwM]; exact HG23.out.on hbw0 ((Below.refl _ _).alloc (Nat.le_refl _) _))
              have HOM := hid (show wM.ownsRow lb 2 1 (.slice (some ⟨k1, 0, none⟩) (1 + l.length) c1') (1 + l.length) (ints [0] ++ ints l) from by rw [hwM]; exact HO23.out.alloc _)
              have HLM2 := hid (show RowIn wM (.slice (some ⟨w23.heap.size, 0, none⟩) 1 1) [1000000000 - x2] from by rw [hwM]; exact row_lit w23 _ _)
              have HWM := hid hwM
              have hzM : lb ≤ wM.heap.size := by rw [hwM]; simp; omega
              clear hwM
              go_wp2_with (first | (at_builtin; rw [← HWM.out]; refine wp_append_ints rfl (.tmp 71) (.tmp 75) rfl lb _ (1 + l.length) _ (by rfl) HOM.out _ [1000000000 - x2] (by rfl) HLM2.out (by have := HLL.out; simp; omega) hzM (fun c h => by cases h) ?_))
              intro v2 w24 ho24 hg24 _
              have HG24 := hid (HGM.out.grown hbw0 HOLD.out (k := k1) hg24 (by omega) (by omega) (by omega))
              obtain ⟨k2', c2', rfl, hk3, hk4⟩ := own_form ho24 (by omega)
              have HO24 := hid (show w24.ownsRow lb 2 1 (.slice (some ⟨k2', 0, none⟩) (1 + l.length + 1) c2') (1 + l.length + 1) (ints (0 :: (l ++ [1000000000 - x2]))) from by
                have h := ho24
                rw [← ints_append, ← ints_append] at h
                exact h)
              clear hg24 ho24
              obtain ⟨S, hS⟩ : ∃ S, S = (l ++ [1000000000 - x2]).sum := ⟨_, rfl⟩
              have CK := hid (fun a W hW => l3Check_calls (0 :: (l ++ [1000000000 - x2])) S hS.symm (by simp) (by have := HLL.out; simp; omega) (fun x hx => by
                have hx : x ∈ l ++ [1000000000 - x2] := hx
                rcases List.mem_append.1 hx with hx | hx
                · have := HNB.out x hx; omega
                · obtain rfl := List.mem_singleton.1 hx; omega) a W hW)
              have HRW := hid (row_in_own2 (by simp; omega) HO24.out)
              have hc0 : w24.cell? ⟨k2', 0, none⟩ = some (.int .i64 0) := (HO24.out.cellAt 0 (by omega)).trans rfl
              have hf0 := HO24.out.frozenAt 0
              have hstt := HO24.out.stored 0 (.int .i64 (1 + S % 999983))
              rw [ints_set] at hstt
              have HGS := hid (HG24.out.grown hbw0 HOLD.out (k := k2') hstt.2 (by omega) (by omega) (by omega))
              have HOS := hid hstt.1
              clear hstt hS
              go_wp2_with (go_at_call 29; refine (CK.out _ _ HRW.out).mono ?_; rintro e wq ⟨rfl, eq⟩; rw [eq]; clear eq wq; refine Hid.out ?_)
              refine hid ?_
              obtain ⟨w25, hw25⟩ : ∃ X, X = w24.setCell ⟨k2', 0, none⟩ (.int .i64 (1 + S % 999983)) := ⟨_, rfl⟩
              rw [← hw25] at HGS HOS
              have HW25 := hid hw25
              have hz25 : lb ≤ w25.heap.size := by have := (HOS.out.lt k2' rfl).2; omega
              clear hw25
              go_wp2_with (first | (at_builtin; rw [← HW25.out]; refine wp_append_zeros rfl (.tmp 82) (.tmp 84) rfl lb _ (1 + l.length + 1) _ (by rfl) HOS.out (by omega) (1 + l.length + 1) (by rfl) (by omega) (by have := HLL.out; omega) hz25 ?_))
              intro v5 w26 ho5 hg5
              have HG26 := hid (HGS.out.grown hbw0 HOLD.out (k := k2') hg5 (by omega) (by omega) (by omega))
              obtain ⟨k3, c3', rfl, hk5, hk6⟩ := own_form ho5 (by omega)
              obtain ⟨W5, hW5⟩ : ∃ W5, W5 = (0 :: (l ++ [1000000000 - x2])).set 0 (1 + S % 999983) ++ noughts (1 + l.length + 1) := ⟨_, rfl⟩
              have hl5 : W5.length = 1 + l.length + 1 + (1 + l.length + 1) := by rw [hW5]; simp [noughts]; omega
              have HO26 := hid (show w26.ownsRow w0.heap.size 2 1 (.slice (some ⟨k3, 0, none⟩) W5.length c3') W5.length (ints W5) from by
                rw [hl5, hW5, ints_append]
                exact own_raise ho5 hz20)
              have HL5 := hid hl5
              have HW5L := hid (show W5.length ≤ 100 by have := HLL.out; omega)
              rw [← hl5]
              clear ho5 hg5 hl5 hW5
              obtain ⟨d0, d1⟩ := var_cells HG26.out.box
              have f0 := var_thaw HG26.out.box 0
              have f1 := var_thaw HG26.out.box 1
              have HGZ := hid (NvG.make (m2 := (m : Int)) HG26.out.box HG26.out.here HG26.out.reader HG26.out.step hbw0 HOLD.out HO26.out (by omega))
              have HRZ := hid ((HGZ.out.step.block w.heap.size (by omega) hnew).trans HBX0.out)
              obtain ⟨r0, r1⟩ := var_cells HRZ.out
              have e0 := var_thaw HRZ.out 0
              have e1 := var_thaw HRZ.out 1
              obtain ⟨j0, j1⟩ := var_cells HGZ.out.box
              go_wp2
              refine bodyPost_ret (v := .agg #[.int .i64 m, .slice (some ⟨k3, 0, none⟩) W5.length c3']) (by simp [results, Try.results21, go_sem, r0, r1]) rfl ?_
              exact nv_fin HSW.out hbw HOLDW.out m (by omega) W5 HW5L.out _ _ _ rfl (row_in_own2 rfl HGZ.out.row) (fun ad e => by injection e with e; subst e; exact hgw HGZ.out.row k3 0 rfl) HGZ.out.reader HGZ.out.step
            · have b3 : (x == 3) = false := by rw [beq_eq_false_iff_ne]; exact h3
              obtain ⟨r0, r1⟩ := var_cells HRB.out
              have e0 := var_thaw HRB.out 0
              have e1 := var_thaw HRB.out 1
              go_wp2
              refine bodyPost_ret (v := .agg #[.int .i64 m, .slice (some ⟨g, 0, none⟩) W.length cap]) (by simp [results, Try.results21, go_sem, r0, r1]) rfl ?_
              exact nv_fin HSW.out hbw HOLDW.out m (by omega) W hwl _ _ _ rfl (row_in_own2 rfl HG20.out.row) (fun ad e => by injection e with e; subst e; exact hgw HG20.out.row g 0 rfl) HG20.out.reader HG20.out.step
end Go.Proofs.Ytknipcnlaaapoaa
