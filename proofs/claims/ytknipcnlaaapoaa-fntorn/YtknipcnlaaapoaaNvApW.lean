/- The writes of the program, one by one, until power is cut. -/
import Derived.Test.YtknipcnlaaapoaaNvApI
import Derived.Defers
import Derived.Recover
namespace Go.Proofs.Ytknipcnlaaapoaa
open Go.RowKit
open Go.Lib (hid)

def cutP : List PanicEntry := [{ v := .iface 82 (.agg #[]), recovered := false }]

/-- The first i of the writes done. -/
def doneW (F : List Int) (L : List Int) : Nat → List Int
  | 0 => L
  | i + 1 => (doneW F L i).set (F.getD (i * 2) 0).toNat (F.getD (i * 2 + 1) 0)

theorem doneW_len (F L : List Int) (i : Nat) : (doneW F L i).length = L.length := by
  induction i with
  | zero => rfl
  | succ i ih => unfold doneW; rw [List.length_set, ih]

/-- What a writer keeps: its words, and how many writes it has power for. -/
structure Pow (w0 : World) (g m c H : Nat) (k : Int) (L : List Int) (w : World) : Prop where
  pw : w.heap[H]? = some (.cells #[.slice (some ⟨g, 0, none⟩) m c] 24)
  pn : w.heap[H + 1]? = some (.cells #[.int .i64 k] 2)
  row : w.ownsRow w0.heap.size 2 1 (.slice (some ⟨g, 0, none⟩) m c) m (ints L)
  below : Below w0.heap.size w0 w
  ord : w0.heap.size ≤ g ∧ g < H ∧ H + 1 < w.heap.size
  len : L.length = m

theorem one_cell {W : World} {b : Nat} {x : Value} {t : TypeId} (h : W.heap[b]? = some (.cells #[x] t)) : W.cell? ⟨b, 0, none⟩ = some x ∧ W.frozen? ⟨b, 0, none⟩ = false := by
  constructor
  · rw [cell_of_row W b 0 _ _ _ h]; rfl
  · simp [World.frozen?, h]

theorem Pow.on {w0 : World} {g m c H : Nat} {k : Int} {L : List Int} {w w' : World} (h : Pow w0 g m c H k L w) (hb : Below w.heap.size w w') : Pow w0 g m c H k L w' :=
  ⟨(hb.block _ (by have := h.ord.2.2; omega)).trans h.pw, (hb.block _ h.ord.2.2).trans h.pn, own_below h.row hb, h.below.trans (hb.mono h.below.size), ⟨h.ord.1, h.ord.2.1, Nat.lt_of_lt_of_le h.ord.2.2 hb.size⟩, h.len⟩

theorem one_set {W : World} {b : Nat} {x : Value} {t : TypeId} (h : W.heap[b]? = some (.cells #[x] t)) (v : Value) : (W.setCell ⟨b, 0, none⟩ v).heap[b]? = some (.cells #[v] t) := block_put h v

theorem Pow.put {w0 : World} {g m c H : Nat} {k : Int} {L : List Int} {w : World} (h : Pow w0 g m c H k L w) (k' : Int) (x : Nat) (y : Int) :
    Pow w0 g m c H k' (L.set x y) ((w.setCell ⟨H + 1, 0, none⟩ (.int .i64 k')).setCell ⟨g, x, none⟩ (.int .i64 y)) := by
  have o := h.ord
  have hr := own_put h.row (b := H + 1) (u := .int .i64 k') (fun e => by simp [Value.ownBlock] at e; omega)
  have hs := (hr.stored x (.int .i64 y)).1
  rw [ints_set] at hs
  refine ⟨?_, ?_, hs, (h.below.setCell (p := ⟨H + 1, 0, none⟩) (by show w0.heap.size ≤ H + 1; omega) _).setCell (p := ⟨g, x, none⟩) o.1 _, ⟨o.1, o.2.1, ?_⟩, by rw [List.length_set]; exact h.len⟩
  · rw [Below.heap_setCell _ _ _ H (by show H ≠ g; omega), Below.heap_setCell _ _ _ H (by show H ≠ H + 1; omega)]
    exact h.pw
  · rw [Below.heap_setCell _ _ _ (H + 1) (by show H + 1 ≠ g; omega)]
    exact one_set h.pn _
  · simp
    exact o.2.2

set_option maxRecDepth 20000 in
set_option maxHeartbeats 1000000 in
theorem put_cut (w0 : World) (g m c H : Nat) (L : List Int) (x y : Int) (w : World) (h : Pow w0 g m c H 0 L w) :
    Calls Try.prog 49 #[.agg #[.int .i64 x, .int .i64 y], .pointer (some ⟨H + 1, 0, none⟩), .pointer (some ⟨H, 0, none⟩)] w fun e w' => e = .panicked cutP ∧ Pow w0 g m c H 0 L w' := by
  have HP := hid h
  obtain ⟨a0, f0⟩ := one_cell h.pn
  have hz : H + 1 < w.heap.size := h.ord.2.2
  clear h
  go_enter Try.func49, Try.ntmps49
  go_wp2
  exact ⟨rfl, rfl, HP.out.on ((Below.refl _ _).alloc (Nat.le_refl _) _)⟩

set_option maxRecDepth 20000 in
set_option maxHeartbeats 1000000 in
theorem put_yes (w0 : World) (g m c H : Nat) (k : Int) (hk : 0 < k) (hk2 : k ≤ 9223372036854775807) (L : List Int) (x : Nat) (y : Int) (hx : x < m) (w : World) (h : Pow w0 g m c H k L w) :
    Calls Try.prog 49 #[.agg #[.int .i64 x, .int .i64 y], .pointer (some ⟨H + 1, 0, none⟩), .pointer (some ⟨H, 0, none⟩)] w fun e w' => e = .returned (.tuple #[]) ∧ Pow w0 g m c H (k - 1) (L.set x y) w' := by
  have HP := hid h
  obtain ⟨a0, f0⟩ := one_cell h.pn
  obtain ⟨a1, f1⟩ := one_cell h.pw
  have hz : H + 1 < w.heap.size := h.ord.2.2
  have hgz := h.ord.2.1
  have hgl := h.ord.1
  have hxl : x < L.length := by rw [h.len]; exact hx
  have hc1 := h.row.cellAt x (by omega)
  rw [ints_at L x hxl] at hc1
  obtain ⟨z, hz0⟩ : ∃ z, L[x] = z := ⟨_, rfl⟩
  rw [hz0] at hc1
  clear hz0 hxl
  have hf1 := h.row.frozenAt x
  have hz2 : H < w.heap.size := by omega
  have hz3 : g < w.heap.size := by omega
  have d1 : ¬ H = H + 1 := by omega
  have d2 : ¬ g = H + 1 := by omega
  have b1 : (0 : Int) ≤ (x : Int) := by omega
  have b2 : (x : Int) < (m : Int) := by omega
  have kb : ((k : Int) == 0) = false := by rw [beq_eq_false_iff_ne]; omega
  clear h
  go_enter Try.func49, Try.ntmps49
  go_wp2
  go_end0
  exact ⟨rfl, (HP.out.put _ x y).on ((Below.refl _ _).alloc (Nat.le_refl _) _)⟩

theorem idle_frame (v : Value) : ((Array.replicate 14 undef).setIfInBounds 3 v).setIfInBounds 0 v = #[v, undef, undef, v, undef, undef, undef, undef, undef, undef, undef, undef, undef, undef] := rfl

theorem until_idle (w : World) :
    CallsD Try.prog 48 #[] .returning w fun e u' w' => e = .returned (.tuple #[]) ∧ u' = .returning ∧ w' = w := by
  refine callsD_of_wpS Try.func48 rfl fun c₀ cs hu => ?_
  apply wpS_seq
  apply wpS_region
  simp [wpOpsS, go_sem, recoverD, hu, Try.ntmps48, Exit.thenS]
  refine wpS_of_wp ?_
  rw [idle_frame]
  go_wp2
  cases c₀
  simp_all [bodyPostS, results, Try.results48]

theorem until_caught (older : List PanicEntry) (w : World) :
    CallsD Try.prog 48 #[] (.panicking ({ v := .iface 82 (.agg #[]), recovered := false } :: older)) w fun e u' w' => e = .returned (.tuple #[]) ∧ u' = .panicking ({ v := .iface 82 (.agg #[]), recovered := true } :: older) ∧ Below w.heap.size w w' := by
  refine callsD_of_wpS Try.func48 rfl fun c₀ cs hu => ?_
  apply wpS_seq
  apply wpS_region
  simp [wpOpsS, go_sem, recoverD, hu, Try.ntmps48, Exit.thenS]
  refine wpS_of_wp ?_
  rw [idle_frame]
  have hta : ∀ w, (Instr.typeAssert (.iface 82 (.agg #[])) 20 82 true).run Try.prog w = .ok (.tuple #[.agg #[], .bool true]) w := fun _ => by kernel_rfl
  go_wp2
  simp [bodyPostS, results, Try.results48]
  exact (Below.refl _ _).alloc (Nat.le_refl _) _

set_option maxRecDepth 20000 in
set_option maxHeartbeats 2000000 in
/-- The writes told one by one until power is cut. -/
theorem until_calls (w0 : World) (g m c H : Nat) (k : Nat) (hk : (k : Int) ≤ 9223372036854775807) (L : List Int) (n : Nat) (F : List Int) (hin : ∀ i, i < n → 0 ≤ F.getD (i * 2) 0 ∧ F.getD (i * 2) 0 < m) (b : Value) (w : World) (h : Pow w0 g m c H k L w) (hb : WRow w0 b n F) :
    Calls Try.prog 38 #[b, .func (.func 49) #[] #[.pointer (some ⟨H + 1, 0, none⟩), .pointer (some ⟨H, 0, none⟩)]] w fun e w' => e = .returned (.tuple #[]) ∧ ∃ k', Pow w0 g m c H k' (doneW F L (min k n)) w' := by
  have HP := hid h
  have HIN := hid hin
  obtain ⟨hF, q, d, rfl, _, hq⟩ := hb
  have HQ := hid hq
  have HF := hid hF
  clear h hin hq hF
  go_enter_defers Try.func38, Try.ntmps38
  go_wp2
  go_loopw [8] (fun iv wr => ∃ i : Nat, i ≤ n ∧ i ≤ k ∧ iv = .int .i64 i ∧ Pow w0 g m c H ((k - i : Nat) : Int) (doneW F L i) wr) (fun iv _ => n - (RowKit.intOf iv).toNat)
  case atStart => exact ⟨0, Nat.zero_le _, Nat.zero_le _, rfl, HP.out⟩
  case round =>
    obtain ⟨i, hi, hik, rfl, hpow⟩ := hrel
    have HW := hid hpow
    by_cases hlt : i < n
    · obtain ⟨g2, o, rfl, hg, hc⟩ := HQ.out (by omega)
      have a0 := hc (i * 2) (by have := HF.out; omega)
      have a1 := hc (i * 2 + 1) (by have := HF.out; omega)
      have HGX : Hid (F.getD (i * 2) 0 = F[i * 2]'(by have := HF.out; omega)) := hid (by have := HF.out; simp [List.getD, show i * 2 < F.length by omega])
      have HGY : Hid (F.getD (i * 2 + 1) 0 = F[i * 2 + 1]'(by have := HF.out; omega)) := hid (by have := HF.out; simp [List.getD, show i * 2 + 1 < F.length by omega])
      have hin := HIN.out i hlt
      rw [HGX.out] at hin
      have hx : wr.cell? ⟨g2, o + i * 2, none⟩ = some (.int .i64 (F[i * 2]'(by have := HF.out; omega))) := by rw [hpow.below.cell (p := ⟨g2, o + i * 2, none⟩) hg]; exact a0
      have hy : wr.cell? ⟨g2, o + i * 2 + 1, none⟩ = some (.int .i64 (F[i * 2 + 1]'(by have := HF.out; omega))) := by rw [hpow.below.cell (p := ⟨g2, o + i * 2 + 1, none⟩) hg, Nat.add_assoc]; exact a1
      have hgz : g2 < wr.heap.size := Nat.lt_of_lt_of_le hg hpow.below.size
      clear hc a0 a1
      have HDW : Hid (doneW F L (i + 1) = (doneW F L i).set (F[i * 2]'(by have := HF.out; omega)).toNat (F[i * 2 + 1]'(by have := HF.out; omega))) := hid (by show (doneW F L i).set _ _ = _; rw [HGX.out, HGY.out])
      generalize F[i * 2]'_ = x at *
      generalize F[i * 2 + 1]'_ = y at *
      obtain ⟨X, rfl⟩ := Int.eq_ofNat_of_zero_le hin.1
      have hXm : X < m := by omega
      have b1 : (0 : Int) ≤ (i : Int) := by omega
      have b2 : (i : Int) < (n : Int) := by omega
      clear hin
      by_cases hki : i = k
      · have HP0 : Hid (Pow w0 g m c H 0 (doneW F L i) wr) := hid (by have h := hpow; rw [hki, Nat.sub_self] at h; rw [hki]; exact h)
        have HK := hid hki
        clear hpow hki
        go_wp2_with (go_at_call 49; refine (put_cut w0 g m c H _ _ _ _ (HP0.out.on ((Below.refl _ _).alloc (Nat.le_refl _) _))).mono ?_; rintro e w5 ⟨rfl, hp5⟩)
        unfold cutP
        refine leaves_cons (f := 48) (args := #[]) (by simp) (by simp [go_sem]) ?_
        refine (until_caught [] _).mono ?_
        rintro e u' w'' ⟨rfl, rfl, hb⟩
        simp [Leaves, settle, results, Try.results38, go_sem]
        exact ⟨0, by rw [← HK.out, Nat.min_eq_left (by omega)]; exact hp5.on hb⟩
      · have hkp : 0 < ((k - i : Nat) : Int) := by omega
        have hkq : ((k - i : Nat) : Int) ≤ 9223372036854775807 := by omega
        have HK : Hid (((k - i : Nat) : Int) - 1 = ((k - (i + 1) : Nat) : Int)) := hid (by omega)
        clear hpow
        go_wp2_with (go_at_call 49; refine (put_yes w0 g m c H _ hkp hkq _ _ _ hXm _ (HW.out.on ((Below.refl _ _).alloc (Nat.le_refl _) _))).mono ?_; rintro e w5 ⟨rfl, hp5⟩; refine Hid.out ?_)
        refine hid ?_
        have HP5 : Hid (Pow w0 g m c H ((k - (i + 1) : Nat) : Int) (doneW F L (i + 1)) w5) := hid (by rw [← HK.out, HDW.out]; exact hp5)
        clear hp5
        go_wp2
        go_roundw
        case rel => exact ⟨i + 1, by omega, by omega, by go_num, HP5.out⟩
        case measure => simp [RowKit.intOf]; omega
    · have hie : i = n := by omega
      subst hie
      clear hpow
      go_wp2
      refine leaves_cons (f := 48) (args := #[]) (by simp) (by simp [go_sem]) ?_
      refine (until_idle _).mono ?_
      rintro e u' w'' ⟨rfl, rfl, rfl⟩
      simp [Leaves, settle, results, Try.results38, go_sem]
      exact ⟨_, by rw [Nat.min_eq_right (by omega)]; exact HW.out⟩

end Go.Proofs.Ytknipcnlaaapoaa
