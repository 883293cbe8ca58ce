/- The specification's NvApply. -/
import Derived.Test.YtknipcnlaaapoaaNvApI2
import Derived.Test.YtknipcnlaaapoaaNvSpecRead2
import Derived.Deep.QuietTactic
import Derived.BigQuiet
import Derived.Deep.DeepCutAuto
namespace Go.Proofs.Ytknipcnlaaapoaa
open Go.RowKit
open Go.Lib (hid)

theorem below_drewN {B : Nat} {a w : World} (h : Below B a w) (n : Nat) : Below B a (w.drewN n) := ⟨h.os, h.tape, h.output, h.size, h.block⟩

set_option maxRecDepth 20000 in
set_option maxHeartbeats 2000000 in
theorem sapply_first (s : Int) (l : List Int) (hl : l.length ≤ 1048576) (n : Nat) (F : List Int) (cnt : Int) (hno : formB s l = false ∨ cnt < 0 ∨ n > 100) (a b : Value) (w : World) (ha : RowIn w a l) (hb : WRow w b n F) :
    Calls Try.prog 14 #[.agg #[.int .i64 s, a], b, .int .i64 cnt] w fun e w' => e = .returned (.tuple #[.agg #[.int .i64 0, .slice none 0 0], .bool false]) ∧ Below w.heap.size w w' := by
  have HA := hid ha
  have CF := hid (fun a W (hW : RowIn W a l) => l3Formed_calls s l hl a W hW)
  obtain ⟨p, c, rfl, hc, _⟩ := ha
  obtain ⟨q, d, rfl, _, _⟩ := hb.2
  have HX := hid (boxes_first w #[.int .i64 s, .slice p l.length c])
  obtain ⟨W0, hW0⟩ : ∃ W0, W0 = (w.alloc (.cells #[.int .i64 s, .slice p l.length c] 26)).alloc (.cells #[.int .i64 0, .slice none 0 0] 26) := ⟨_, rfl⟩
  rw [← hW0] at HX
  have HW0 := hid hW0
  clear hb hW0
  cases hf : formB s l with
  | false =>
    rw [hf] at CF
    clear hno hf
    go_enter Try.func14, Try.ntmps14
    go_wp2_with (go_at_call 30; rw [← HW0.out]; refine (CF.out _ _ (HA.out.on HX.out.below)).mono ?_; rintro e w1 ⟨rfl, hb1⟩; refine Hid.out ?_)
    refine hid ?_
    have HX1 := hid (HX.out.on hb1)
    obtain ⟨k2, k3⟩ := var_cells HX1.out.z
    have f2 := var_thaw HX1.out.z 0
    have f3 := var_thaw HX1.out.z 1
    have hz := HX1.out.size
    clear hb1
    go_wp2
    exact bodyPost_ret (v := .tuple #[.agg #[.int .i64 0, .slice none 0 0], .bool false]) (by simp [results, Try.results14, go_sem, k2, k3]) rfl ⟨rfl, HX1.out.stays _ _⟩
  | true =>
    rw [hf] at CF
    by_cases hn : cnt < 0
    · clear hno hf
      go_enter Try.func14, Try.ntmps14
      go_wp2_with (go_at_call 30; rw [← HW0.out]; refine (CF.out _ _ (HA.out.on HX.out.below)).mono ?_; rintro e w1 ⟨rfl, hb1⟩; refine Hid.out ?_)
      refine hid ?_
      have HX1 := hid (HX.out.on hb1)
      obtain ⟨k2, k3⟩ := var_cells HX1.out.z
      have f2 := var_thaw HX1.out.z 0
      have f3 := var_thaw HX1.out.z 1
      have hz := HX1.out.size
      clear hb1
      go_wp2
      exact bodyPost_ret (v := .tuple #[.agg #[.int .i64 0, .slice none 0 0], .bool false]) (by simp [results, Try.results14, go_sem, k2, k3]) rfl ⟨rfl, HX1.out.stays _ _⟩
    · have h100 : (n : Int) > 100 := by
        rcases hno with h | h | h
        · rw [hf] at h; cases h
        · exact absurd h hn
        · omega
      clear hno hf
      go_enter Try.func14, Try.ntmps14
      go_wp2_with (go_at_call 30; rw [← HW0.out]; refine (CF.out _ _ (HA.out.on HX.out.below)).mono ?_; rintro e w1 ⟨rfl, hb1⟩; refine Hid.out ?_)
      refine hid ?_
      have HX1 := hid (HX.out.on hb1)
      obtain ⟨k2, k3⟩ := var_cells HX1.out.z
      have f2 := var_thaw HX1.out.z 0
      have f3 := var_thaw HX1.out.z 1
      have hz := HX1.out.size
      clear hb1
      go_wp2
      exact bodyPost_ret (v := .tuple #[.agg #[.int .i64 0, .slice none 0 0], .bool false]) (by simp [results, Try.results14, go_sem, k2, k3]) rfl ⟨rfl, HX1.out.stays _ _⟩

set_option maxRecDepth 20000 in
set_option maxHeartbeats 4000000 in
theorem sapply_bad (s : Int) (l : List Int) (hl : l.length ≤ 1048576) (n : Nat) (F : List Int) (cnt : Int) (hf : formB s l = true) (hcz : ¬ cnt < 0) (h100 : ¬ (n : Int) > 100) (hall : (List.range n).all (wokB l.length F) = false) (a b : Value) (w : World) (ha : RowIn w a l) (hb : WRow w b n F) :
    Calls Try.prog 14 #[.agg #[.int .i64 s, a], b, .int .i64 cnt] w fun e w' => e = .returned (.tuple #[.agg #[.int .i64 0, .slice none 0 0], .bool false]) ∧ Below w.heap.size w w' := by
  have HA := hid ha
  have CF := hid (fun a W (hW : RowIn W a l) => l3Formed_calls s l hl a W hW)
  rw [hf] at CF
  have hlen : 6 ≤ l.length := by
    obtain ⟨h1, _, h3, _⟩ := formB_iff.1 hf
    omega
  obtain ⟨p, c, rfl, hc, _⟩ := ha
  obtain ⟨hF, q, d, rfl, _, hq⟩ := hb
  have HQ := hid hq
  have HF := hid hF
  have HALL := hid hall
  have HX := hid (boxes_first w #[.int .i64 s, .slice p l.length c])
  obtain ⟨W0, hW0⟩ : ∃ W0, W0 = (w.alloc (.cells #[.int .i64 s, .slice p l.length c] 26)).alloc (.cells #[.int .i64 0, .slice none 0 0] 26) := ⟨_, rfl⟩
  rw [← hW0] at HX
  have HW0 := hid hW0
  clear hW0 hq hF hf hall
  go_enter Try.func14, Try.ntmps14
  go_wp2_with (go_at_call 30; rw [← HW0.out]; refine (CF.out _ _ (HA.out.on HX.out.below)).mono ?_; rintro e w1 ⟨rfl, hb1⟩; refine Hid.out ?_)
  refine hid ?_
  have HX1 := hid (HX.out.on hb1)
  clear hb1
  go_wp2
  go_loopw [8] (fun iv wr => ∃ i : Nat, i ≤ n ∧ iv = .int .i64 i ∧ Boxes w #[.int .i64 s, .slice p l.length c] wr ∧ (List.range i).all (wokB l.length F) = true) (fun iv _ => n - (RowKit.intOf iv).toNat)
  case atStart => exact ⟨0, Nat.zero_le _, rfl, HX1.out, rfl⟩
  case round =>
    obtain ⟨i, hi, rfl, hbox, hall⟩ := hrel
    have HB := hid hbox
    have HAI := hid hall
    have hz := hbox.size
    obtain ⟨k0, k1⟩ := var_cells hbox.v
    by_cases hlt : i < n
    · obtain ⟨g2, o, rfl, hg, hc2⟩ := HQ.out (by omega)
      have a0 := hc2 (i * 2) (by have := HF.out; omega)
      have a1 := hc2 (i * 2 + 1) (by have := HF.out; omega)
      have HGX : Hid (F.getD (i * 2) 0 = F[i * 2]'(by have := HF.out; omega)) := hid (by have := HF.out; simp [List.getD, show i * 2 < F.length by omega])
      have HGY : Hid (F.getD (i * 2 + 1) 0 = F[i * 2 + 1]'(by have := HF.out; omega)) := hid (by have := HF.out; simp [List.getD, show i * 2 + 1 < F.length by omega])
      have hx : wr.cell? ⟨g2, o + i * 2, none⟩ = some (.int .i64 (F[i * 2]'(by have := HF.out; omega))) := by rw [hbox.below.cell (p := ⟨g2, o + i * 2, none⟩) hg]; exact a0
      have hy : wr.cell? ⟨g2, o + i * 2 + 1, none⟩ = some (.int .i64 (F[i * 2 + 1]'(by have := HF.out; omega))) := by rw [hbox.below.cell (p := ⟨g2, o + i * 2 + 1, none⟩) hg, Nat.add_assoc]; exact a1
      have hgz : g2 < wr.heap.size := Nat.lt_of_lt_of_le hg hbox.below.size
      clear hc2 a0 a1 hbox hall
      generalize F[i * 2]'_ = x at *
      generalize F[i * 2 + 1]'_ = y at *
      have b1 : (0 : Int) ≤ (i : Int) := by omega
      have b2 : (i : Int) < (n : Int) := by omega
      have C1 := hid (fun W => nin_calls x 0 ((l.length : Int) - 1) W)
      have C2 := hid (fun W => nin_calls y 0 1000000000 W)
      by_cases t1 : 0 ≤ x ∧ x ≤ (l.length : Int) - 1
      · rw [decide_eq_true t1] at C1
        by_cases t2 : 0 ≤ y ∧ y ≤ 1000000000
        · rw [decide_eq_true t2] at C2
          have HOK : Hid (wokB l.length F i = true) := hid (by unfold wokB; rw [HGX.out, HGY.out]; simp; omega)
          clear t1 t2
          go_wp2
          go_quiet ((first | (go_at_call_of 31 (Value.int .i64 x); exact Calls.quiet_of_same (C1.out _)) | (go_at_call_of 31 (Value.int .i64 y); exact Calls.quiet_of_same (C2.out _))))
          go_wp2
          go_roundw
          case rel => exact ⟨i + 1, by omega, by go_num, HB.out.on (below_drewN (Below.refl _ _) nq), by rw [List.range_succ, List.all_append, HAI.out]; simp [HOK.out]⟩
          case measure => simp [RowKit.intOf]; omega
        · rw [decide_eq_false t2] at C2
          clear t1 t2
          go_wp2
          go_quiet ((first | (go_at_call_of 31 (Value.int .i64 x); exact Calls.quiet_of_same (C1.out _)) | (go_at_call_of 31 (Value.int .i64 y); exact Calls.quiet_of_same (C2.out _))))
          have hbd := HB.out.on (below_drewN (Below.refl _ _) nq)
          have HBD := hid hbd
          obtain ⟨k2, k3⟩ := var_cells hbd.z
          have f2 := var_thaw hbd.z 0
          have f3 := var_thaw hbd.z 1
          have hzd := hbd.size
          clear hbd
          generalize wr.drewN nq = wd at *
          go_wp2
          exact bodyPost_ret (v := .tuple #[.agg #[.int .i64 0, .slice none 0 0], .bool false]) (by simp [results, Try.results14, go_sem, k2, k3]) rfl ⟨rfl, HBD.out.stays _ _⟩
      · rw [decide_eq_false t1] at C1
        clear t1
        go_wp2
        go_quiet ((first | (go_at_call_of 31 (Value.int .i64 x); exact Calls.quiet_of_same (C1.out _)) | (go_at_call_of 31 (Value.int .i64 y); exact Calls.quiet_of_same (C2.out _))))
        have hbd := HB.out.on (below_drewN (Below.refl _ _) nq)
        have HBD := hid hbd
        obtain ⟨k2, k3⟩ := var_cells hbd.z
        have f2 := var_thaw hbd.z 0
        have f3 := var_thaw hbd.z 1
        have hzd := hbd.size
        clear hbd
        generalize wr.drewN nq = wd at *
        go_wp2
        exact bodyPost_ret (v := .tuple #[.agg #[.int .i64 0, .slice none 0 0], .bool false]) (by simp [results, Try.results14, go_sem, k2, k3]) rfl ⟨rfl, HBD.out.stays _ _⟩
    · have hie : i = n := by omega
      subst hie
      rw [HAI.out] at HALL
      exact absurd HALL.out (by simp)
theorem after_append {W w6 : World} {row : Option Nat} (hg : W.grownBy w6 row) {b k : Nat} {o : Obj} (h : W.heap[b]? = some o) (hr : row = some k) (hk : b ≠ k) : w6.heap[b]? = some o :=
  (hg.block b (Array.getElem?_eq_some_iff.1 h).1 (fun e => hk (Option.some.inj (e.trans hr)))).trans h

theorem own_empty2 (w : World) (x : Obj) (base : Nat) (hb : base ≤ w.heap.size + 1) : ((w.alloc x).alloc (.cells #[] 2)).drew.ownsRow base 2 1 (.slice (some ⟨w.heap.size + 1, 0, none⟩) 0 0) 0 [] := by
  have h := (own_empty (w.alloc x) base (by simp; omega)).drew
  simpa using h

theorem two_set {W : World} {b : Nat} {x y : Value} {t : TypeId} (h : W.heap[b]? = some (.cells #[x, y] t)) (u v : Value) : ((W.setCell ⟨b, 0, none⟩ u).setCell ⟨b, 1, none⟩ v).heap[b]? = some (.cells #[u, v] t) := by
  rw [heap_setCell_same _ b 1 _ _ v (heap_setCell_same W b 0 _ _ u h)]
  rfl

theorem own_ne {W : World} {base g c n b : Nat} {e t : TypeId} {xs : List Value} {V : Array Value} (h : W.ownsRow base e 1 (.slice (some ⟨g, 0, none⟩) n c) n xs) (hb : W.heap[b]? = some (.cells V t)) (hne : t ≠ e) : b ≠ g := by
  intro hbg
  rcases h.2 with ⟨h, _⟩ | ⟨g', cap, cur, hv, _, hg, _⟩
  · simp at h
  · simp only [Value.slice.injEq, Option.some.injEq, Addr.mk.injEq, true_and, and_true] at hv
    rw [← hv.1, ← hbg, hb] at hg
    simp only [Option.some.injEq, Obj.cells.injEq] at hg
    exact hne hg.2.1
end Go.Proofs.Ytknipcnlaaapoaa
