/- The helpers of the laws on writes that came in: how many, and a copy. -/
import Derived.Test.YtdkleogklfgafaaWrRows
import Derived.Test.YtdkleogklfgafaaNvRHelp
import Derived.Test.YtdkleogklfgafaaWrPut
namespace Go.Proofs.Ytdkleogklfgafaa
open Go.RowKit
open Go.Lib (hid)

/-- A row of n writes that came in, wherever it lies: its cells in order. -/
def ArgW (w : World) (a : Value) (n : Nat) (F : List Int) : Prop :=
  F.length = 2 * n ∧ ∃ p c, a = .slice p n c ∧ ∀ i (hi : i < F.length), ∃ ad : Addr, p = some ad ∧ ad.block < w.heap.size ∧ w.cell? (ad.add i) = some (.int .i64 F[i])

theorem ArgW.on {w w' : World} {a : Value} {n : Nat} {F : List Int} (h : ArgW w a n F) (hb : Below w.heap.size w w') : ArgW w' a n F := by
  obtain ⟨h0, p, c, rfl, hp⟩ := h
  refine ⟨h0, p, c, rfl, fun i hi => ?_⟩
  obtain ⟨ad, rfl, hl, hc⟩ := hp i hi
  exact ⟨ad, rfl, Nat.lt_of_lt_of_le hl hb.size, by rw [hb.cell (p := ad.add i) (by rw [add_block]; exact hl)]; exact hc⟩

theorem sz_writes (n : Nat) (F : List Int) (hm : n ≤ maxLen) (k : Nat) (hk : k ≤ 1048576) (a : Value) (w : World) (ha : ArgW w a n F) :
    Calls Try.prog 15 #[a, .int .i64 k] w fun e w' => e = .returned (.int .i64 (if n ≤ k then ((k - n : Nat) : Int) else -1)) ∧ Below w.heap.size w w' := by
  obtain ⟨_, p, c, rfl, _⟩ := ha
  unfold maxLen at hm
  by_cases h : n ≤ k
  · rw [if_pos h]
    have e1 : IntKind.i64.wrap ((k : Int) - (n : Int)) = ((k - n : Nat) : Int) := by rw [IntKind.wrap_i64]; omega
    have e2 : ¬ ((k - n : Nat) : Int) < 0 := by omega
    generalize ((k - n : Nat) : Int) = z at *
    go_enter Try.func15, Try.ntmps15
    go_wp2
    go_ret
    exact ⟨rfl, Below.refl _ _⟩
  · rw [if_neg h]
    obtain ⟨z, hz⟩ : ∃ z : Int, z = (k : Int) - (n : Int) := ⟨_, rfl⟩
    have e1 : IntKind.i64.wrap ((k : Int) - (n : Int)) = z := by rw [IntKind.wrap_i64]; omega
    have e2 : z < 0 := by omega
    go_enter Try.func15, Try.ntmps15
    go_wp2
    go_ret
    exact ⟨rfl, Below.refl _ _⟩

set_option maxRecDepth 20000 in
set_option maxHeartbeats 1000000 in
theorem to_write (x y : Int) (w : World) :
    Calls Try.prog 45 #[.agg #[.int .i64 x, .int .i64 y]] w fun e w' => e = .returned (.agg #[.int .i64 x, .int .i64 y]) ∧ Below w.heap.size w w' := by
  go_enter Try.func45, Try.ntmps45
  go_wp2
  refine bodyPost_ret (v := .agg #[.int .i64 x, .int .i64 y]) (by simp [results, Try.results45, go_sem]) rfl ⟨rfl, ?_⟩
  exact (((Below.refl _ _).alloc (Nat.le_refl _) _).alloc (by simp) _).alloc (by simp; omega) _

theorem add_one_at (ad : Addr) (k : Nat) : (⟨(ad.add k).block, (ad.add k).off + 1, none⟩ : Addr) = ad.add (k + 1) := by
  unfold Addr.add
  by_cases h : k = 0
  · subst h; simp
  · simp [h, Nat.add_assoc]

set_option maxRecDepth 20000 in
set_option maxHeartbeats 1000000 in
theorem to_writes (n : Nat) (F : List Int) (hn : n ≤ 1048576) (a : Value) (w : World) (ha : ArgW w a n F) :
    Calls Try.prog 18 #[a] w fun e w' => e = .returned (.slice (some ⟨w.heap.size, 0, none⟩) n n) ∧ Below w.heap.size w w' ∧ w'.ownsRow w.heap.size 71 2 (.slice (some ⟨w.heap.size, 0, none⟩) n n) n (ints F) := by
  obtain ⟨hF, p, c, rfl, hp⟩ := ha
  have HP := hid hp
  clear hp
  obtain ⟨i0, hi0, hz0, hz1, hz2⟩ := info_parts writeInfo
  obtain ⟨wm, hrun, hown, hgr⟩ := run_make_full (P := Try.prog) w w.heap.size 41 71 i0 _ 2 Try.underlying41 hi0 hz0 hz1 .i64 .i64 n (by rw [hz2]; omega) (by unfold maxLen; omega) (Nat.le_refl _)
  have hcells : (madeCells (Value.agg #[Value.int .i64 0, Value.int .i64 0]).cells (n * 2)).toList = ints (filling F 0) := by
    have e : ∀ j : Nat, (#[Value.int .i64 0, Value.int .i64 0] : Array Value)[j % 2]! = Value.int .i64 0 := fun j => by
      have : j % 2 = 0 ∨ j % 2 = 1 := by omega
      rcases this with h | h <;> rw [h] <;> rfl
    show (madeCells #[Value.int .i64 0, Value.int .i64 0] (n * 2)).toList = _
    unfold madeCells filling ints noughts
    simp only [List.size_toArray, List.length_cons, List.length_nil, Nat.reduceAdd, e, Array.toList_map, List.take_zero, List.nil_append, Nat.sub_zero, List.map_replicate]
    rw [List.map_const', hF]
    simp [Nat.mul_comm]
  rw [hcells] at hown
  have hbm : Below w.heap.size w wm := ⟨hgr.os, hgr.tape, hgr.output, hgr.size, fun k hk => hgr.block k hk (by simp)⟩
  have HB := hid hbm
  have HO := hid hown
  have HFL := hid hF
  have hzm := hgr.size
  clear hown hcells hgr hi0 hz0 hz1 hz2 hbm
  go_enter Try.func18, Try.ntmps18
  go_wp2
  go_loopw [4] (fun iv wr => ∃ i : Nat, i ≤ n ∧ iv = .int .i64 i ∧ Below w.heap.size w wr ∧ wr.ownsRow w.heap.size 71 2 (.slice (some ⟨w.heap.size, 0, none⟩) n n) n (ints (filling F (i * 2)))) (fun iv _ => n - (RowKit.intOf iv).toNat)
  case atStart => exact ⟨0, Nat.zero_le _, rfl, HB.out, HO.out⟩
  case round =>
    obtain ⟨i, hi, rfl, hbel, hown⟩ := hrel
    have HB2 := hid hbel
    have HO2 := hid hown
    by_cases hlt : i < n
    · obtain ⟨ad, rfl, hbl, hc⟩ := HP.out (i * 2) (by omega)
      obtain ⟨ad2, e2, hbl2, hd⟩ := HP.out (i * 2 + 1) (by omega)
      obtain rfl := Option.some.inj e2
      have hfl := filling_len F (i * 2) (by omega)
      have hc1 : wr.cell? (ad.add (i * 2)) = some (.int .i64 F[i * 2]) := by rw [hbel.cell (p := ad.add (i * 2)) (by rw [add_block]; exact hbl)]; exact hc
      have hd1 : wr.cell? (ad.add (i * 2 + 1)) = some (.int .i64 F[i * 2 + 1]) := by rw [hbel.cell (p := ad.add (i * 2 + 1)) (by rw [add_block]; exact hbl)]; exact hd
      have hd2 : wr.cell? ⟨(ad.add (i * 2)).block, (ad.add (i * 2)).off + 1, none⟩ = some (.int .i64 F[i * 2 + 1]) := by rw [add_one_at]; exact hd1
      have HST := hid (fun (W : World) (ho : W.ownsRow w.heap.size 71 2 (.slice (some ⟨w.heap.size, 0, none⟩) n n) n (ints (filling F (i * 2)))) => (show ((W.setCell ⟨w.heap.size, i * 2, none⟩ (.int .i64 F[i * 2])).setCell ⟨w.heap.size, i * 2 + 1, none⟩ (.int .i64 F[i * 2 + 1])).ownsRow w.heap.size 71 2 (.slice (some ⟨w.heap.size, 0, none⟩) n n) n (ints (filling F ((i + 1) * 2))) from by
        have h2 := ((ho.stored (i * 2) (.int .i64 F[i * 2])).1.stored (i * 2 + 1) (.int .i64 F[i * 2 + 1])).1
        rw [ints_set, ints_set, filling_set F (i * 2) (by omega), filling_set F (i * 2 + 1) (by omega), show i * 2 + 1 + 1 = (i + 1) * 2 by omega] at h2
        exact h2))
      have HCELL := hid (fun (W : World) (ho : W.ownsRow w.heap.size 71 2 (.slice (some ⟨w.heap.size, 0, none⟩) n n) n (ints (filling F (i * 2)))) => (show (∃ u, W.cell? ⟨w.heap.size, i * 2, none⟩ = some u) ∧ (∃ u, W.cell? ⟨w.heap.size, i * 2 + 1, none⟩ = some u) from ⟨⟨_, by rw [ho.cellAt (i * 2) (by omega), ints_at _ (i * 2) (by omega)]⟩, ⟨_, by rw [ho.cellAt (i * 2 + 1) (by omega), ints_at _ (i * 2 + 1) (by omega)]⟩⟩))
      clear hbel hown hc hd hd1 hrun hfl e2
      generalize F[i * 2] = x at *
      generalize F[i * 2 + 1] = y at *
      go_wp2_with (go_at_call 45; refine (to_write x y _).mono ?_; rintro e w5 ⟨rfl, hb5⟩; refine Hid.out ?_)
      refine hid ?_
      have HO5 := hid (own_below HO2.out hb5)
      have HB5 := hid (HB2.out.trans (hb5.mono HB2.out.size))
      obtain ⟨⟨u0, a0⟩, ⟨u1, a1⟩⟩ := HCELL.out w5 HO5.out
      have f0 := HO5.out.frozenAt (i * 2)
      have f1 := HO5.out.frozenAt (i * 2 + 1)
      have HS5 := hid (HST.out w5 HO5.out)
      clear hb5
      go_wp2
      go_roundw
      case rel => exact ⟨i + 1, by omega, by go_num, (HB5.out.setCell (p := ⟨w.heap.size, i * 2, none⟩) (Nat.le_refl _) _).setCell (p := ⟨w.heap.size, i * 2 + 1, none⟩) (Nat.le_refl _) _, HS5.out⟩
      case measure => simp [RowKit.intOf]; omega
    · have hie : i = n := by omega
      subst hie
      clear hbel hown hrun
      go_wp2
      go_ret
      exact ⟨rfl, HB2.out, by have := HO2.out; rw [show i * 2 = F.length by have := HFL.out; omega, filling_all] at this; exact this⟩
end Go.Proofs.Ytdkleogklfgafaa
