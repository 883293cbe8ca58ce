/- Drawn lists of marks. -/
import Derived.Test.YthpnlhbfginkjaaDrawTwo
import Derived.Test.YthpnlhbfginkjaaDrawDrift
import Derived.Test.YthpnlhbfginkjaaDrawLaw
import Derived.Test.YthpnlhbfginkjaaRowMark
import Derived.OneCell
namespace Go.Proofs.Ythpnlhbfginkjaa
open Go.RowKit
open Go.Lib (hid)

attribute [local go_sem] run_fadd run_fsub run_fmul run_fquo run_fneg run_store_float

theorem wp_append_mark {w : World} {ops : Array Oper} {rest : List Oper} {o : Oper} {a : Act} {Q : Exit → Act → World → Prop} (hgd : o.guard = none) (s x : Operand)
    (ho : o.op = .call { callee := .builtin .append, args := #[s, x], argTypes := #[26, 26] }) (base : Nat)
    (v : Value) (es : List MarkD) (hs : a.eval s = v) (hown : w.ownsRow base 47 2 v es.length (flat encMark es))
    (b : Nat) (c : Nat) (y z : Nat) (hx : a.eval x = .slice (some ⟨b, 0, none⟩) 1 c) (h0 : w.cell? ⟨b, 0, none⟩ = some (.float .f64 y)) (h1 : w.cell? ⟨b, 1, none⟩ = some (.float .f64 z)) (hn : es.length ≤ 100000000) (hbase : base ≤ w.heap.size)
    (h : ∀ v' w', w'.ownsRow base 47 2 v' (es.length + 1) (flat encMark (es ++ [MarkD.mk y z])) → w.grownBy w' v.ownBlock → (v'.ownBlock = v.ownBlock ∨ v'.ownBlock = some w.heap.size) → wpList Try.prog ops Q rest (a.put o.dst v') w') : wpList Try.prog ops Q (o :: rest) a w := by
  obtain ⟨i0, hi0, hz0, hz1, hz2⟩ := info_parts infoMark
  have hap : flat encMark (es ++ [MarkD.mk y z]) = flat encMark es ++ [.float .f64 y, .float .f64 z] := by rw [flat_append]; rfl
  rw [hap] at h
  refine wp_append_where w hgd s x 26 ho base 47 i0 _ 2 16 Try.underlying26 hi0 hz0 hz1 hz2 rfl (by decide) v es.length _ hs hown ⟨b, 0, none⟩ c [.float .f64 y, .float .f64 z] hx rfl ?_ ?_ ?_ ?_ hbase h
  · intro j u hj
    match j, hj with
    | 0, hj => simp at hj; subst hj; exact h0
    | 1, hj => simp at hj; subst hj; exact h1
  · intro u hu
    simp at hu
    rcases hu with rfl | rfl <;> rfl
  · unfold maxLen; omega
  · omega

theorem step_far {b g : Nat} {u v : World} (h : Step b u v) (hg : u.heap.size ≤ g) (o : Nat) (x : Value) : Step b u (v.setCell ⟨g, o, none⟩ x) :=
  ⟨h.os, h.tape, h.output, by simpa using h.size, fun k hk hne => (heap_setCell_other _ _ _ _ (show k ≠ g by omega)).trans (h.block k hk hne)⟩

/-- Where the drawing of marks stands. -/
structure MkG (w : World) (b : Nat) (q : Option Addr) (n c : Nat) (v : Value) (es : List MarkD) (wr : World) : Prop where
  own : wr.ownsRow w.heap.size 47 2 v es.length (flat encMark es)
  reader : Rd wr b q n c
  step : Step b w wr
  small : ∀ e ∈ es, e.x0 < 18446744073709551616 ∧ e.x1 < 18446744073709551616

theorem MkG.call {w : World} {b : Nat} {q : Option Addr} {n c : Nat} {v : Value} {es : List MarkD} {wr w' : World} (h : MkG w b q n c v es wr) (hb : b < w.heap.size) (hr : Rd w' b q n c) (hs : Step b wr w') : MkG w b q n c v es w' :=
  ⟨own_step h.own hb hs, hr, h.step.trans hs, h.small⟩

theorem MkG.alloc {w : World} {b : Nat} {q : Option Addr} {n c : Nat} {v : Value} {es : List MarkD} {wr : World} (h : MkG w b q n c v es wr) (o : Obj) : MkG w b q n c v es (wr.alloc o) :=
  ⟨h.own.alloc _, h.reader.below ((Below.refl _ _).alloc (Nat.le_refl _) _), h.step.alloc _, h.small⟩

theorem MkG.set {w : World} {b : Nat} {q : Option Addr} {n c : Nat} {v : Value} {es : List MarkD} {wr : World} (h : MkG w b q n c v es wr) (hbw : b < w.heap.size) (hq : ∀ ad, q = some ad → ad.block < w.heap.size ∨ n = 0) {g : Nat} (hg : w.heap.size ≤ g) (hne : v.ownBlock ≠ some g) (o : Nat) (u : Value) : MkG w b q n c v es (wr.setCell ⟨g, o, none⟩ u) :=
  ⟨ownsRow_setCell_other h.own (a := ⟨g, o, none⟩) hne u, h.reader.under (base := g) (Nat.lt_of_lt_of_le hbw hg) ((Below.refl _ _).setCell (p := ⟨g, o, none⟩) (Nat.le_refl _) _) (fun ad e => (hq ad e).imp (fun hl => Nat.lt_of_lt_of_le hl hg) id), step_far h.step hg o u, h.small⟩

theorem MkG.put {w : World} {b : Nat} {q : Option Addr} {n c : Nat} {v v' : Value} {es : List MarkD} {y z : Nat} {cs : Array Value} {t : TypeId} {wr w' : World} (h : MkG w b q n c v es wr) (hb : b < w.heap.size) (hq : ∀ ad, q = some ad → ad.block < w.heap.size ∨ n = 0) (hy : y < 18446744073709551616) (hz : z < 18446744073709551616)
    (hown : w'.ownsRow w.heap.size 47 2 v' (es.length + 1) (flat encMark (es ++ [MarkD.mk y z]))) (hg : (wr.alloc (.cells cs t)).grownBy w' v.ownBlock) : MkG w b q n c v' (es ++ [MarkD.mk y z]) w' := by
  have hlt := fun j hj => (h.own.lt j hj).1
  have hs1 : Step b w (wr.alloc (.cells cs t)) := h.step.alloc _
  refine ⟨by rw [List.length_append]; exact hown, ?_, step_grown hs1 hg hlt, ?_⟩
  · have hr := h.reader.below ((Below.refl wr.heap.size wr).alloc (Nat.le_refl _) (.cells cs t))
    have hbl : Below w.heap.size (wr.alloc (.cells cs t)) w' :=
      ⟨hg.os, hg.tape, hg.output, hg.size, fun j hj => hg.block j (Nat.lt_of_lt_of_le hj hs1.size) (fun e => by have := hlt j e.symm; omega)⟩
    exact hr.under hb hbl hq
  · intro e he
    rcases List.mem_append.1 he with h1 | h1
    · exact h.small e h1
    · have := List.mem_singleton.1 h1
      rw [this]
      exact ⟨hy, hz⟩

theorem own_base2 {w : World} {b b' size n : Nat} {e : TypeId} {v : Value} {xs : List Value} (h : w.ownsRow b e size v n xs) (hb : b' ≤ b) : w.ownsRow b' e size v n xs := by
  refine ⟨h.1, ?_⟩
  rcases h.2 with hn | ⟨g, cap, cur, e1, hbg, rest⟩
  · exact Or.inl hn
  · exact Or.inr ⟨g, cap, cur, e1, Nat.le_trans hb hbg, rest⟩

theorem MkG.start {w : World} {b : Nat} {q : Option Addr} {n c : Nat} {w1 : World} (hr : Rd w1 b q n c) (hs : Step b w w1) : MkG w b q n c (.slice (some ⟨w1.heap.size, 0, Option.none⟩) 0 0) [] (w1.alloc (.cells #[] 47)) :=
  ⟨own_base2 (World.ownsRow_made w1 #[] 0 (Nat.le_refl _) (Nat.zero_le _) rfl) hs.size, hr.below ((Below.refl _ _).alloc (Nat.le_refl _) _), hs.alloc _, fun e he => by cases he⟩

theorem d_size58 (w : World) (b : Nat) (q : Option Addr) (n c : Nat) (h : Rd w b q n c) :
    Calls Try.prog 47 #[.pointer (some ⟨b, 0, none⟩), .int .i64 5, .int .i64 8] w fun e w' => ∃ x : Int, e = .returned (.int .i64 x) ∧ 1 ≤ x ∧ x ≤ 8 ∧ Rd w' b q n c ∧ Step b w w' := by
  have HR := hid h
  have hdata := h.data
  have hfew := h.few
  clear h
  by_cases hc : (n : Int) / 5 + 1 > 8
  · have e1 : 1 + (n : Int) / 5 > 8 := by omega
    clear hc
    go_enter Try.func47, Try.ntmps47
    go_wp2_with (go_at_call 48; refine (d_below _ (by omega) _ _ _ _ _ HR.out).mono ?_; rintro e w1 ⟨x, rfl, ⟨hx0, hx1⟩, hr1, hs1⟩; refine Hid.out ?_)
    refine hid ?_
    have HR1 := hid hr1
    have HS1 := hid hs1
    have hx2 := hx1 (by omega)
    clear hr1 hs1
    go_wp2
    go_ret
    exact ⟨1 + x, rfl, by omega, by omega, HR1.out, HS1.out⟩
  · have e1 : ¬ 1 + (n : Int) / 5 > 8 := by omega
    have e2 : 0 ≤ (n : Int) / 5 := by omega
    clear hc
    go_enter Try.func47, Try.ntmps47
    go_wp2_with (go_at_call 48; refine (d_below _ (by omega) _ _ _ _ _ HR.out).mono ?_; rintro e w1 ⟨x, rfl, ⟨hx0, hx1⟩, hr1, hs1⟩; refine Hid.out ?_)
    refine hid ?_
    have HR1 := hid hr1
    have HS1 := hid hs1
    have hx2 := hx1 (by omega)
    clear hr1 hs1
    go_wp2
    go_ret
    exact ⟨1 + x, rfl, by omega, by omega, HR1.out, HS1.out⟩

theorem row_nil2 (w : World) (p : Option Addr) (c : Nat) : FRow encMark 2 w (.slice p 0 c) [] := ⟨p, c, rfl, Nat.zero_le _, fun h => absurd rfl h⟩

set_option maxRecDepth 20000 in
set_option maxHeartbeats 8000000 in
theorem drawn_blend (w : World) (q : Option Addr) (n c : Nat) (hn : n ≤ 1048576) (hq : TBytes w q n) :
    Calls Try.prog 22 #[.slice q n c] w fun e w' => ∃ (v : Value) (es : List MarkD), e = .returned v ∧ es.length ≤ 101 ∧ FRow encMark 2 w' v es ∧ (∀ e ∈ es, e.x0 < 18446744073709551616 ∧ e.x1 < 18446744073709551616) ∧ Below w.heap.size w w' := by
  have HQ := hid hq
  clear hq
  go_enter Try.func22, Try.ntmps22
  go_wp2_with (go_at_call 46; refine (d_open _ q n c hn HQ.out).mono ?_; rintro e w1 ⟨rfl, hr1, hb1⟩; refine Hid.out ?_)
  refine hid ?_
  have HB1 := hid hb1
  have HG1 := hid (MkG.start (w := w1) hr1 (Step.refl _ _))
  have HOLD := hid hr1.old
  have hbw : w.heap.size < w1.heap.size := hr1.here
  clear hr1 hb1
  go_wp2_with (go_at_call 47; refine (d_size58 _ _ _ _ _ HG1.out.reader).mono ?_; rintro e w3 ⟨m, rfl, hm0, hm1, hr3, hs3⟩; refine Hid.out ?_)
  refine hid ?_
  have HG3 := hid (HG1.out.call hbw hr3 hs3)
  clear hr3 hs3 HG1
  obtain ⟨m0, rfl⟩ := Int.eq_ofNat_of_zero_le (show 0 ≤ m by omega)
  go_wp2
  go_loopw [4, 5] (fun ov nv wr => ∃ k : Nat, ∃ es, k ≤ 8 ∧ nv = .int .i64 k ∧ es.length + k ≤ 8 ∧ Hid (MkG w1 w.heap.size q n c ov es wr)) (fun _ nv _ => (RowKit.intOf nv).toNat)
  case atStart => exact ⟨m0, [], by omega, rfl, by simp; omega, HG3⟩
  case round =>
    clear HG3 hm0 hm1
    obtain ⟨k, es, hk, rfl, hlen, HG⟩ := hrel
    by_cases hlt : 0 < k
    · obtain ⟨k2, rfl⟩ : ∃ k2, k = k2 + 1 := ⟨k - 1, by omega⟩
      go_wp2_with (go_at_call 48; refine (d_below 8 (by omega) _ _ _ _ _ HG.out.reader).mono ?_; rintro e w11 ⟨x, rfl, ⟨hu0, hu1⟩, hr11, hs11⟩; refine Hid.out ?_)
      refine hid ?_
      have HG11 := hid (HG.out.call hbw hr11 hs11)
      have hfx := ofInt_lt x
      clear hr11 hs11 hu1 hu0
      go_wp2_with (go_at_call 49; refine (d_float _ _ _ _ _ HG11.out.reader).mono ?_; unfold DrawnF; rintro e w12 ⟨s, rfl, hs, hr12, hs12⟩; refine Hid.out ?_)
      refine hid ?_
      have HG12 := hid (HG11.out.call hbw hr12 hs12)
      have hz12 : w1.heap.size ≤ w12.heap.size := HG12.out.step.size
      clear hr12 hs12
      go_wp2_with (go_at_call 50; refine (d_once 6 (by omega) (by omega) _ _ _ _ _ (by exact (HG12.out.alloc _).reader)).mono ?_; rintro e w13 ⟨t, rfl, hr13, hs13⟩; refine Hid.out ?_)
      refine hid ?_
      have HG13 := hid ((HG12.out.alloc _).call hbw hr13 hs13)
      have HV13 := hid ((hs13.block w12.heap.size (by simp) (by omega)).trans (heap_alloc_new _ _))
      have HLT : Hid (∀ j, u4.ownBlock = some j → j < w12.heap.size) := hid (fun j hj => (HG12.out.own.lt j hj).2)
      clear hr13 hs13
      cases t with
      | false =>
        obtain ⟨d0, d1, _, _⟩ := two_cells HV13.out
        go_wp2_with (at_builtin; refine wp_append_mark rfl _ _ rfl w1.heap.size _ es rfl (HG13.out.own.alloc _) w13.heap.size 1 (floatOfInt .f64 x) s rfl ((two_cells (heap_alloc_new _ _)).1) ((two_cells (heap_alloc_new _ _)).2.1) (by omega) ?c3 ?_)
        case c3 => have := HG13.out.step.size; simp; omega
        intro v6 w6 hown6 hgrow _
        have HM6 := hid (HG13.out.put hbw HOLD.out hfx hs hown6 hgrow)
        clear hown6 hgrow
        go_wp2
        go_roundw
        case rel => exact ⟨k2, _, by omega, by go_num, by rw [List.length_append]; simp; omega, hid HM6.out⟩
        case measure => simp [RowKit.intOf]
      | true =>
        go_wp2_with (go_at_call 49; refine (d_float _ _ _ _ _ HG13.out.reader).mono ?_; unfold DrawnF; rintro e w14 ⟨s2, rfl, hs2, hr14, hs14⟩; refine Hid.out ?_)
        refine hid ?_
        have HG14 := hid (HG13.out.call hbw hr14 hs14)
        have hz13 : w12.heap.size < w13.heap.size := (Array.getElem?_eq_some_iff.1 HV13.out).1
        have HV14 := hid ((hs14.block w12.heap.size hz13 (by omega)).trans HV13.out)
        obtain ⟨d0, d1, d2, _⟩ := two_cells HV14.out
        obtain ⟨w15, hw15⟩ : ∃ W, W = w14.setCell ⟨w12.heap.size, 0, none⟩ (.float .f64 s2) := ⟨_, rfl⟩
        have HG15 : Hid (MkG w1 w.heap.size q n c u4 es w15) := hid (by rw [hw15]; exact HG14.out.set hbw HOLD.out (g := w12.heap.size) hz12 (fun e => absurd (HLT.out _ e) (Nat.lt_irrefl _)) 0 (.float .f64 s2))
        have HV15 : Hid (w15.heap[w12.heap.size]? = some (.cells #[.float .f64 s2, .float .f64 s] 47)) := hid (by rw [hw15]; exact heap_setCell_same _ _ _ _ _ _ HV14.out)
        clear hr14 hs14
        go_upto_region 9 with (fail)
        rw [← hw15]
        clear hw15 d0 d1 d2
        obtain ⟨d0, d1, _, _⟩ := two_cells HV15.out
        go_wp2_with (at_builtin; refine wp_append_mark rfl _ _ rfl w1.heap.size _ es rfl (HG15.out.own.alloc _) w15.heap.size 1 s2 s rfl ((two_cells (heap_alloc_new _ _)).1) ((two_cells (heap_alloc_new _ _)).2.1) (by omega) ?c3 ?_)
        case c3 => have := HG15.out.step.size; simp; omega
        intro v6 w6 hown6 hgrow _
        have HM6 := hid (HG15.out.put hbw HOLD.out hs2 hs hown6 hgrow)
        clear hown6 hgrow
        go_wp2
        go_roundw
        case rel => exact ⟨k2, _, by omega, by go_num, by rw [List.length_append]; simp; omega, hid HM6.out⟩
        case measure => simp [RowKit.intOf]
    · have hk0 : k = 0 := by omega
      subst hk0
      go_wp2_with (go_at_call 48; refine (d_below 24 (by omega) _ _ _ _ _ HG.out.reader).mono ?_; rintro e w2 ⟨x, rfl, ⟨hx0, hx1⟩, hr2, hs2⟩; refine Hid.out ?_)
      refine hid ?_
      have HG2 := hid (HG.out.call hbw hr2 hs2)
      have HSB := hid (step_tail HB1.out HG2.out.step (Nat.le_refl _))
      clear hr2 hs2
      by_cases hx : x = 0
      · subst hx
        rcases HG2.out.own.2 with ⟨hv, hz⟩ | ⟨g, cap, cur, hv, _⟩
        · subst hv
          go_wp2
          go_ret
          exact ⟨_, [], rfl, by simp, row_nil2 _ _ _, (fun e he => by cases he), HSB.out⟩
        · subst hv
          go_wp2
          go_ret
          exact ⟨_, [], rfl, by simp, row_nil2 _ _ _, (fun e he => by cases he), HSB.out⟩
      · have hb0 : (x == 0) = false := by rw [beq_eq_false_iff_ne]; exact hx
        by_cases hx2 : x = 1
        · subst hx2
          go_wp2_with (go_at_call 48; refine (d_below 2 (by omega) _ _ _ _ _ HG2.out.reader).mono ?_; rintro e w3 ⟨y, rfl, ⟨hy0, hy1⟩, hr3, hs3⟩; refine Hid.out ?_)
          refine hid ?_
          have HG3 := hid (HG2.out.call hbw hr3 hs3)
          have HSB3 := hid (step_tail HB1.out HG3.out.step (Nat.le_refl _))
          obtain ⟨y, rfl⟩ := Int.eq_ofNat_of_zero_le hy0
          have hy2 : y = 0 ∨ y = 1 := by have := hy1 (by omega); omega
          clear hr3 hs3 hy1
          obtain ⟨i0, hi0, hz0, hz1, hz2⟩ := info_parts infoMark
          rcases hy2 with rfl | rfl
          · obtain ⟨wm, hrun, hown, hgr⟩ := run_make_full (P := Try.prog) w3 w3.heap.size 26 47 i0 _ 2 Try.underlying26 hi0 hz0 hz1 .i64 .i64 100 (by rw [hz2]; omega) (by unfold maxLen; omega) (Nat.le_refl _)
            rw [show ((100 : Nat) : Int) = 100 from rfl] at hrun
            have hcells : (madeCells (Value.agg #[Value.float .f64 0, Value.float .f64 0]).cells (100 * 2)).toList = flat encMark (List.replicate 100 zMark) := made_flat (by decide) encMark_len zMark 100
            rw [hcells] at hown
            have hbm : Below w3.heap.size w3 wm := ⟨hgr.os, hgr.tape, hgr.output, hgr.size, fun k hk => hgr.block k hk (by simp)⟩
            have HOW := hid (row_of_own encMark_len (es := List.replicate 100 zMark) (by simpa using hown))
            have HBM := hid (HSB3.out.trans (hbm.mono HSB3.out.size))
            clear hown hgr hbm hcells hi0 hz0 hz1 hz2
            go_wp2
            go_ret
            exact ⟨_, _, rfl, by simp, HOW.out, fun e he => by rw [List.eq_of_mem_replicate he]; exact ⟨by decide, by decide⟩, HBM.out⟩
          · obtain ⟨wm, hrun, hown, hgr⟩ := run_make_full (P := Try.prog) w3 w3.heap.size 26 47 i0 _ 2 Try.underlying26 hi0 hz0 hz1 .i64 .i64 101 (by rw [hz2]; omega) (by unfold maxLen; omega) (Nat.le_refl _)
            rw [show ((101 : Nat) : Int) = 101 from rfl] at hrun
            have hcells : (madeCells (Value.agg #[Value.float .f64 0, Value.float .f64 0]).cells (101 * 2)).toList = flat encMark (List.replicate 101 zMark) := made_flat (by decide) encMark_len zMark 101
            rw [hcells] at hown
            have hbm : Below w3.heap.size w3 wm := ⟨hgr.os, hgr.tape, hgr.output, hgr.size, fun k hk => hgr.block k hk (by simp)⟩
            have HOW := hid (row_of_own encMark_len (es := List.replicate 101 zMark) (by simpa using hown))
            have HBM := hid (HSB3.out.trans (hbm.mono HSB3.out.size))
            clear hown hgr hbm hcells hi0 hz0 hz1 hz2
            go_wp2
            go_ret
            exact ⟨_, _, rfl, by simp, HOW.out, fun e he => by rw [List.eq_of_mem_replicate he]; exact ⟨by decide, by decide⟩, HBM.out⟩
        · have hb1 : (x == 1) = false := by rw [beq_eq_false_iff_ne]; exact hx2
          have HOW := hid (row_of_own encMark_len HG2.out.own)
          have HSM := hid HG2.out.small
          go_wp2
          go_ret
          exact ⟨_, es, rfl, by omega, HOW.out, HSM.out, HSB.out⟩
end Go.Proofs.Ythpnlhbfginkjaa
