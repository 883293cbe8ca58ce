/- Blend, the program's. -/
import Derived.Test.YthpnlhbfginkjaaBlendKit
import Derived.Test.YthpnlhbfginkjaaBlendSpec
namespace Go.Proofs.Ythpnlhbfginkjaa
open Go.RowKit
open Go.Lib (hid)

attribute [local go_sem] run_fadd run_fsub run_fmul run_fquo run_store_float fw_cell

/-- The marks that are known, as pairs. -/
def kept (l : List MarkD) : List (Nat × Nat) := (l.filter bothF).map fun e => (e.x0, e.x1)

theorem kept_next (l : List MarkD) (i : Nat) (h : i < l.length) : kept (l.take (i + 1)) = if bothF l[i] = true then kept (l.take i) ++ [(l[i].x0, l[i].x1)] else kept (l.take i) := by
  unfold kept
  rw [List.take_succ_eq_append_getElem h, List.filter_append, List.map_append]
  by_cases hb : bothF l[i] = true
  · rw [if_pos hb, List.filter_cons_of_pos hb]; rfl
  · rw [if_neg hb, List.filter_cons_of_neg hb]; simp

theorem blSum_kept (es : List MarkD) : blSum es = (psum (kept es), sumO ((kept es).map Prod.fst)) := by
  have key : ∀ i, i ≤ es.length → blSum (es.take i) = (psum (kept (es.take i)), sumO ((kept (es.take i)).map Prod.fst)) := by
    intro i
    induction i with
    | zero => intro _; rfl
    | succ n ih =>
      intro hn
      rw [blSum_next es n (by omega), ih (by omega), kept_next es n (by omega)]
      unfold blStep
      by_cases hb : bothF es[n] = true
      · rw [if_pos hb, if_pos hb]
        unfold psum sumO
        rw [List.foldl_append, List.map_append, List.foldl_append]
        rfl
      · rw [if_neg hb, if_neg hb]
  have h1 := key es.length (Nat.le_refl _)
  rwa [List.take_length] at h1

theorem lit_at (W : World) (v : Value) (t : TypeId) (g : Nat) (h : g = W.heap.size) : (W.alloc (.cells #[v] t)).cell? ⟨g, 0, none⟩ = some v := by rw [h]; exact (cell_of_row _ _ 0 _ _ _ (heap_alloc_new _ _)).trans rfl
theorem lit_new (W : World) (v : Value) (t : TypeId) : (W.alloc (.cells #[v] t)).cell? ⟨W.heap.size, 0, none⟩ = some v := (cell_of_row _ _ 0 _ _ _ (heap_alloc_new _ _)).trans rfl
theorem lit_old {wa : World} {p : Addr} {v : Value} {c : Obj} (h : wa.cell? p = some v) : (wa.alloc c).cell? p = some v := ((Below.refl wa.heap.size wa).alloc (Nat.le_refl _) c).cell (World.block_lt_of_cell? wa p h) |>.trans h
theorem lit_grown {wa wb : World} {row : Option Nat} {p : Addr} {v : Value} (B : Nat) (hg : wa.grownBy wb row) (h : wa.cell? p = some v) (hp : B ≤ p.block) (hr : ∀ k, row = some k → k < B) : wb.cell? p = some v :=
  hg.cell h (fun e => absurd (hr _ e.symm) (Nat.not_lt.2 hp))

theorem Two.allocB {w wa : World} {p q : Addr} {x y : Value} (h : Two w p q x y wa) (c : Obj) : Two w p q x y (wa.alloc c) := ⟨lit_old h.1, lit_old h.2.1, h.2.2.alloc h.2.2.size _⟩
theorem Two.grown {w wa wb : World} {p q : Addr} {x y : Value} {row : Option Nat} {B : Nat} (h : Two w p q x y wa) (hg : wa.grownBy wb row) (hp : B ≤ p.block) (hq : B ≤ q.block) (hr : ∀ k, row = some k → k < B) (hw : ∀ k, row = some k → w.heap.size ≤ k) : Two w p q x y wb :=
  ⟨lit_grown B hg h.1 hp hr, lit_grown B hg h.2.1 hq hr, h.2.2.grown hg h.2.2.size hw⟩

/-- Two rows of the call's own that share no block. -/
structure Rows2 (base : Nat) (va vb : Value) (la lb : List Nat) (n m : Nat) (wr : World) : Prop where
  oa : wr.ownsRow base 24 1 va n (fls la)
  ob : wr.ownsRow base 24 1 vb m (fls lb)
  apart : ∀ j k, va.ownBlock = some j → vb.ownBlock = some k → j ≠ k

theorem Rows2.below {base : Nat} {va vb : Value} {la lb : List Nat} {n m : Nat} {wr w2 : World} (h : Rows2 base va vb la lb n m wr) (hb : Below wr.heap.size wr w2) : Rows2 base va vb la lb n m w2 :=
  ⟨own_below h.oa hb, own_below h.ob hb, h.apart⟩

theorem Rows2.alloc {base : Nat} {va vb : Value} {la lb : List Nat} {n m : Nat} {wr : World} (h : Rows2 base va vb la lb n m wr) (c : Obj) : Rows2 base va vb la lb n m (wr.alloc c) :=
  h.below ((Below.refl _ _).alloc (Nat.le_refl _) c)

theorem Rows2.first {base : Nat} {va vb va' : Value} {la lb : List Nat} {n m : Nat} {x : Nat} {wr w2 : World} (h : Rows2 base va vb la lb n m wr) (ho : w2.ownsRow base 24 1 va' (n + 1) (fls la ++ fls [x])) (hg : wr.grownBy w2 va.ownBlock) (hv : va'.ownBlock = va.ownBlock ∨ va'.ownBlock = some wr.heap.size) : Rows2 base va' vb (la ++ [x]) lb (n + 1) m w2 := by
  refine ⟨by rw [fls_append]; exact ho, h.ob.kept hg ?_, fun j k hj hk => ?_⟩
  · cases hb : vb.ownBlock with
    | none => exact Or.inl rfl
    | some k => exact Or.inr fun e => h.apart k k e.symm hb rfl
  · have hlt := h.ob.lt k hk
    rcases hv with e | e
    · exact h.apart j k (by rw [← e]; exact hj) hk
    · rw [e] at hj
      have := Option.some.inj hj
      omega

theorem Rows2.second {base : Nat} {va vb vb' : Value} {la lb : List Nat} {n m : Nat} {x : Nat} {wr w2 : World} (h : Rows2 base va vb la lb n m wr) (ho : w2.ownsRow base 24 1 vb' (m + 1) (fls lb ++ fls [x])) (hg : wr.grownBy w2 vb.ownBlock) (hv : vb'.ownBlock = vb.ownBlock ∨ vb'.ownBlock = some wr.heap.size) : Rows2 base va vb' la (lb ++ [x]) n (m + 1) w2 := by
  refine ⟨h.oa.kept hg ?_, by rw [fls_append]; exact ho, fun j k hj hk => ?_⟩
  · cases hb : va.ownBlock with
    | none => exact Or.inl rfl
    | some k => exact Or.inr fun e => h.apart k k hb e.symm rfl
  · have hlt := h.oa.lt j hj
    rcases hv with e | e
    · exact h.apart j k hj (by rw [← e]; exact hk)
    · rw [e] at hk
      have := Option.some.inj hk
      omega

set_option maxRecDepth 20000 in
set_option maxHeartbeats 4000000 in
theorem blend_impl (es : List MarkD) (hs : ∀ e ∈ es, e.x0 < 18446744073709551616 ∧ e.x1 < 18446744073709551616) (hn : es.length ≤ 1000000000) (a : Value) (w : World) (ha : FRow encMark 2 w a es) :
    Calls Try.prog 11 #[a] w (FPost (blendO es) w) := by
  unfold FPost
  obtain ⟨p, c, rfl, _, hp⟩ := ha
  have HP := hid hp
  have HSM := hid hs
  clear hp hs
  by_cases h100 : es.length ≤ 100
  · have HOUT : Hid (blendO es = fop .quo (psum (kept es)) (sumO ((kept es).map Prod.fst))) := hid (by unfold blendO; rw [if_pos h100, blSum_kept])
    go_enter Try.func11, Try.ntmps11
    go_wp2
    go_loopw [3, 4, 13] (fun va vb iv wr => ∃ (i : Nat) (ps : List (Nat × Nat)), i ≤ es.length ∧ iv = .int .i64 ((i : Nat) : Int) ∧ Hid (kept (es.take i) = ps) ∧ ps.length ≤ i ∧ Hid (Rows2 w.heap.size va vb (ps.map Prod.fst) (ps.map Prod.snd) ps.length ps.length wr) ∧ Hid (Below w.heap.size w wr)) (fun _ _ iv _ => es.length - (RowKit.intOf iv).toNat)
    case atStart => exact ⟨0, [], Nat.zero_le _, rfl, hid rfl, Nat.le_refl _, hid ⟨World.ownsRow_nil _ _ _ _, World.ownsRow_nil _ _ _ _, fun j k h => by cases h⟩, hid (Below.refl _ _)⟩
    case round =>
      obtain ⟨i, ps, hi, rfl, HK, hps, HR, HB⟩ := hrel
      by_cases hlt : i < es.length
      · have hne : es ≠ [] := fun h => by rw [h] at hlt; cases hlt
        obtain ⟨g, o, rfl, hg, hc⟩ := HP.out hne
        have c0 : wr.cell? ⟨g, o + i * 2, none⟩ = some (.float .f64 es[i].x0) := (HB.out.cell (p := ⟨g, o + i * 2, none⟩) hg).trans (hc i hlt 0 (by decide))
        have c1 : wr.cell? ⟨g, o + i * 2 + 1, none⟩ = some (.float .f64 es[i].x1) := (HB.out.cell (p := ⟨g, o + i * 2 + 1, none⟩) hg).trans (hc i hlt 1 (by decide))
        have HN : Hid (kept (es.take (i + 1)) = if bothF es[i] = true then ps ++ [(es[i].x0, es[i].x1)] else ps) := hid (by rw [kept_next es i hlt, HK.out])
        have hx := HSM.out es[i] (List.getElem_mem hlt)
        clear hc
        generalize es[i] = e at *
        obtain ⟨x0, x1⟩ := e
        have K0 : ∀ W, Calls Try.prog 37 #[.float .f64 x0] W fun e w' => e = .returned (.bool (finB x0)) ∧ w' = W := fun W => known_impl x0 hx.1 W
        have K1 : ∀ W, Calls Try.prog 37 #[.float .f64 x1] W fun e w' => e = .returned (.bool (finB x1)) ∧ w' = W := fun W => known_impl x1 hx.2 W
        have H0 := hid K0
        have H1 := hid K1
        clear K0 K1
        have b1 : (0 : Int) ≤ (i : Int) := by omega
        have b2 : (i : Int) < (es.length : Int) := by omega
        have hzr : w.heap.size ≤ wr.heap.size := HB.out.size
        cases f0 : finB x0 with
        | false =>
          rw [f0] at H0
          have HN2 : Hid (kept (es.take (i + 1)) = ps) := hid (by rw [HN.out]; unfold bothF; rw [f0, if_neg (by simp)])
          go_wp2_with (go_at_call_of 37 (Value.float .f64 x0); refine (H0.out _).mono ?_; rintro e wq ⟨rfl, eq⟩; rw [eq]; clear eq wq; refine Hid.out ?_)
          refine hid ?_
          go_wp2
          go_roundw
          case rel => exact ⟨i + 1, ps, by omega, by go_num, HN2, by omega, hid (HR.out.alloc _), hid (HB.out.alloc hzr _)⟩
          case measure => simp [RowKit.intOf]; omega
        | true =>
          rw [f0] at H0
          cases f1 : finB x1 with
          | false =>
            rw [f1] at H1
            have HN2 : Hid (kept (es.take (i + 1)) = ps) := hid (by rw [HN.out]; unfold bothF; rw [f0, f1, if_neg (by simp)])
            go_wp2_with (go_at_call_of 37 (Value.float .f64 x0); refine (H0.out _).mono ?_; rintro e wq ⟨rfl, eq⟩; rw [eq]; clear eq wq; refine Hid.out ?_)
            refine hid ?_
            go_wp2_with (go_at_call_of 37 (Value.float .f64 x1); refine (H1.out _).mono ?_; rintro e wq ⟨rfl, eq⟩; rw [eq]; clear eq wq; refine Hid.out ?_)
            refine hid ?_
            go_wp2
            go_roundw
            case rel => exact ⟨i + 1, ps, by omega, by go_num, HN2, by omega, hid (HR.out.alloc _), hid (HB.out.alloc hzr _)⟩
            case measure => simp [RowKit.intOf]; omega
          | true =>
            rw [f1] at H1
            have HN2 : Hid (kept (es.take (i + 1)) = ps ++ [(x0, x1)]) := hid (by rw [HN.out]; unfold bothF; rw [f0, f1, if_pos (by rfl)])
            have HLT : Hid (∀ k, u3.ownBlock = some k → w.heap.size ≤ k ∧ k < wr.heap.size) := hid (fun k hk => HR.out.oa.lt k hk)
            have HLU : Hid (∀ k, u4.ownBlock = some k → w.heap.size ≤ k ∧ k < wr.heap.size) := hid (fun k hk => HR.out.ob.lt k hk)
            go_wp2_with (go_at_call_of 37 (Value.float .f64 x0); refine (H0.out _).mono ?_; rintro e wq ⟨rfl, eq⟩; rw [eq]; clear eq wq; refine Hid.out ?_)
            refine hid ?_
            go_wp2_with (go_at_call_of 37 (Value.float .f64 x1); refine (H1.out _).mono ?_; rintro e wq ⟨rfl, eq⟩; rw [eq]; clear eq wq; refine Hid.out ?_)
            refine hid ?_
            have HLT2 : Hid (∀ k, u3.ownBlock = some k → k < wr.heap.size) := hid (fun k hk => (HLT.out k hk).2)
            have HLU2 : Hid (∀ k, u4.ownBlock = some k → k < wr.heap.size) := hid (fun k hk => (HLU.out k hk).2)
            obtain ⟨W0, hW0⟩ : ∃ W0, W0 = (wr.alloc (.cells #[.float .f64 x0, .float .f64 x1] 47)) := ⟨_, rfl⟩
            have HW0 := hid hW0
            have HS0 : Hid (Two w ⟨wr.heap.size, 0, none⟩ ⟨wr.heap.size, 1, none⟩ (.float .f64 x0) (.float .f64 x1) W0) := hid (by rw [hW0]; exact ⟨(cell_of_row _ _ 0 _ _ _ (heap_alloc_new _ _)).trans rfl, (cell_of_row _ _ 1 _ _ _ (heap_alloc_new _ _)).trans rfl, HB.out.alloc hzr _⟩)
            have HRW : Hid (Rows2 w.heap.size u3 u4 (ps.map Prod.fst) (ps.map Prod.snd) ps.length ps.length W0.drew) := hid (by rw [hW0]; exact (HR.out.alloc _).below (Below.refl _ _).drew)
            have hzb : wr.heap.size ≤ W0.heap.size := by rw [hW0]; simp
            rw [← hW0]
            clear hW0
            have q0 := HS0.out.1
            have q1 := HS0.out.2.1
            go_wp2
            go_region_held3 (fun w' => w'.cell? ⟨wr.heap.size, 0, none⟩ = some (.float .f64 x0) ∧ w'.cell? ⟨wr.heap.size, 1, none⟩ = some (.float .f64 x1) ∧ Below w.heap.size w w') (first | with_reducible assumption | exact Two.drew HS0.out | exact Two.allocB (by with_reducible assumption) _) ((first | (refine step_append_fl rfl (.tmp 25) (.tmp 28) (by rfl) w.heap.size u3 ps.length (fls (ps.map Prod.fst)) (by rfl) (by first | exact HRX.out.oa | exact (Rows2.alloc HRX.out _).oa | exact (Rows2.alloc HRW.out _).oa | exact (Rows2.alloc (Rows2.alloc HRW.out _) _).oa) _ _ x0 (by rfl) (by first | exact lit_at _ _ _ _ (by first | rfl | (simp; done)) | exact lit_old (lit_at _ _ _ _ (by first | rfl | (simp; done))) | exact lit_grown wr.heap.size HG.out (lit_at _ _ _ _ (by first | rfl | (simp; done))) (by first | (simp; done) | (simp; omega)) HGB.out | exact lit_grown wr.heap.size HG.out (lit_old (lit_at _ _ _ _ (by first | rfl | (simp; done)))) (by first | (simp; done) | (simp; omega)) HGB.out) (by omega) (by first | omega | (simp; omega)) ?_; intro v7 w7 ho hg hv; have hS7 := Two.grown (w := w) (p := ⟨wr.heap.size, 0, none⟩) (q := ⟨wr.heap.size, 1, none⟩) (x := .float .f64 x0) (y := .float .f64 x1) (by with_reducible assumption) hg (Nat.le_refl _) (Nat.le_refl _) (fun k hk => (HLT.out k hk).2) (fun k hk => (HLT.out k hk).1); have hz7 : wr.heap.size ≤ w7.heap.size := Nat.le_trans (by first | omega | (simp; omega)) hg.size; have HG := hid hg; have HGB := HLT2; have HRX := hid (Rows2.first (by first | exact HRX.out | exact Rows2.alloc HRX.out _ | exact Rows2.alloc HRW.out _ | exact Rows2.alloc (Rows2.alloc HRW.out _) _) ho hg hv); clear ho hg hv) | (refine step_append_fl rfl (.tmp 30) (.tmp 33) (by rfl) w.heap.size u4 ps.length (fls (ps.map Prod.snd)) (by rfl) (by first | exact HRX.out.ob | exact (Rows2.alloc HRX.out _).ob | exact (Rows2.alloc HRW.out _).ob | exact (Rows2.alloc (Rows2.alloc HRW.out _) _).ob) _ _ x1 (by rfl) (by first | exact lit_at _ _ _ _ (by first | rfl | (simp; done)) | exact lit_old (lit_at _ _ _ _ (by first | rfl | (simp; done))) | exact lit_grown wr.heap.size HG.out (lit_at _ _ _ _ (by first | rfl | (simp; done))) (by first | (simp; done) | (simp; omega)) HGB.out | exact lit_grown wr.heap.size HG.out (lit_old (lit_at _ _ _ _ (by first | rfl | (simp; done)))) (by first | (simp; done) | (simp; omega)) HGB.out) (by omega) (by first | omega | (simp; omega)) ?_; intro v8 w8 ho hg hv; have hS7 := Two.grown (w := w) (p := ⟨wr.heap.size, 0, none⟩) (q := ⟨wr.heap.size, 1, none⟩) (x := .float .f64 x0) (y := .float .f64 x1) (by with_reducible assumption) hg (Nat.le_refl _) (Nat.le_refl _) (fun k hk => (HLU.out k hk).2) (fun k hk => (HLU.out k hk).1); have hz7 : wr.heap.size ≤ w8.heap.size := Nat.le_trans (by first | omega | (simp; omega)) hg.size; have HG := hid hg; have HGB := HLU2; have HRX := hid (Rows2.second (by first | exact HRX.out | exact Rows2.alloc HRX.out _ | exact Rows2.alloc HRW.out _ | exact Rows2.alloc (Rows2.alloc HRW.out _) _) ho hg hv); clear ho hg hv) | (fail "no arm")))
            all_goals
              go_wp2
              go_roundw
              case rel => exact ⟨i + 1, ps ++ [(x0, x1)], by omega, by go_num, HN2, by rw [List.length_append]; simp; omega, hid (by rw [List.length_append, List.map_append, List.map_append]; exact HRX.out), hid hS7.2.2⟩
              case measure => simp [RowKit.intOf]; omega
      · have hie : i = es.length := by omega
        subst hie
        have HK2 := HK.out
        rw [List.take_length] at HK2
        subst HK2
        have hk100 : (kept es).length ≤ 1000000 := by omega
        have HA : Hid (RowFl wr u3 ((kept es).map Prod.fst)) := hid (row_fl_own2 (by simp) HR.out.oa)
        have HV : Hid (RowFl wr u4 ((kept es).map Prod.snd)) := hid (row_fl_own2 (by simp) HR.out.ob)
        have hl1 : ((kept es).map Prod.fst).length ≤ 1000000000 := by rw [List.length_map]; omega
        generalize kept es = ps at *
        go_wp2_with (go_at_call 39; refine (products_calls ps hk100 _ _ _ HA.out HV.out).mono ?_; rintro e w3 ⟨v, l, rfl, hv, hpr, hb3⟩; refine Hid.out ?_)
        refine hid ?_
        have hl2 : l.length ≤ 1000000000 := by rw [hpr.1]; omega
        have HE := hid (sum_psum hpr)
        have HB3 := hid (HB.out.trans (hb3.mono HB.out.size))
        have HA3 := hid (HA.out.on hb3)
        have HL := hid hv
        clear hpr hb3 hv
        go_wp2_with (go_at_call_of 38 v; refine (sum_calls l hl2 _ _ HL.out).mono ?_; rintro e w4 ⟨r1, rfl, hr1, hb4⟩; refine Hid.out ?_)
        refine hid ?_
        have HB4 := hid (HB3.out.trans (hb4.mono HB3.out.size))
        have HA4 := hid (HA3.out.on hb4)
        have HF1 := hid hr1
        clear hb4 hr1
        go_wp2_with (go_at_call_of 38 u3; refine (sum_calls _ hl1 _ _ HA4.out).mono ?_; rintro e w5 ⟨r2, rfl, hr2, hb5⟩; refine Hid.out ?_)
        refine hid ?_
        have HB5 := hid (HB4.out.trans (hb5.mono HB4.out.size))
        have HF2 := hid hr2
        clear hb5 hr2
        go_wp2
        go_ret
        exact ⟨_, rfl, by rw [HOUT.out, ← HE.out]; exact FS.op .quo HF1.out HF2.out _, HB5.out.trans (fw_below _ _ _ _ _)⟩
  · have HO : Hid (blendO es = none) := hid (by unfold blendO; rw [if_neg h100])
    go_enter Try.func11, Try.ntmps11
    go_wp2_with (go_at_call 36; refine (none_impl _).mono ?_; rintro e w2 ⟨rfl, rfl⟩)
    go_ret
    exact ⟨_, rfl, by rw [HO.out]; exact (by decide : nanB 9221120237041090561 = true), Below.refl _ _⟩
end Go.Proofs.Ythpnlhbfginkjaa
