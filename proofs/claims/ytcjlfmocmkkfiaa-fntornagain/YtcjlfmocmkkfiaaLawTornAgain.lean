/- The law FnTornAgain, walked: it answers true. -/
import Derived.Test.YtcjlfmocmkkfiaaTornPlain
import Derived.Test.YtcjlfmocmkkfiaaBase
import Derived.ProofKit
import Derived.OwnWalk
namespace Go.Proofs.Ytcjlfmocmkkfiaa
open Go.RowKit
open Go.Lib (hid)

theorem tbig_calls (q : Option Addr) (n c : Nat) (w : World) : Calls Try.prog 5 #[.slice q n c] w fun e w' => e = .returned (.bool (decide ((n : Int) > 1048576))) ∧ w' = w := by
  go_enter Try.func5, Try.ntmps5
  go_wp2
  go_ret
  exact ⟨rfl, rfl⟩

theorem row_lit_two (w : World) (x y : Int) (t : TypeId) : RowIn (w.alloc (.cells #[.int .i64 x, .int .i64 y] t)) (.slice (some ⟨w.heap.size, 0, none⟩) 2 2) [x, y] := by
  refine ⟨_, 2, rfl, Nat.le_refl _, fun _ => ⟨w.heap.size, 0, rfl, by simp, fun j hj => ?_⟩⟩
  have : j = 0 ∨ j = 1 := by simp at hj; omega
  rcases this with rfl | rfl
  · exact (cell_of_row _ _ _ _ _ _ (heap_alloc_new w _)).trans rfl
  · exact (cell_of_row _ _ _ _ _ _ (heap_alloc_new w _)).trans rfl

theorem cell_set_far {w : World} {b g o j : Nat} (h : b ≠ g) (v : Value) : (w.setCell ⟨b, o, none⟩ v).cell? ⟨g, j, none⟩ = w.cell? ⟨g, j, none⟩ := by
  have hb : (w.setCell ⟨b, o, none⟩ v).heap[g]? = w.heap[g]? :=
    heap_setCell_other w ⟨b, o, none⟩ g v (fun e => h e.symm)
  exact World.cell?_of_block hb

theorem row_far {w : World} {b g n c : Nat} {W : List Int} (h : RowIn w (.slice (some ⟨g, 0, none⟩) n c) W) (hb : b ≠ g) (u v : Value) : RowIn ((w.setCell ⟨b, 0, none⟩ u).setCell ⟨b, 1, none⟩ v) (.slice (some ⟨g, 0, none⟩) n c) W := by
  obtain ⟨p, c', e, hc, hp⟩ := h
  refine ⟨p, c', e, hc, fun hne => ?_⟩
  obtain ⟨g', o', rfl, hg, hcell⟩ := hp hne
  injection e with e1 _ _
  injection e1 with e1
  injection e1 with e1 e2 _
  subst e1 e2
  refine ⟨g, 0, rfl, by simpa using hg, fun j hj => ?_⟩
  rw [cell_set_far hb, cell_set_far hb]
  exact hcell j hj

theorem box_put {W : World} {b : Nat} {x y : Value} {t : TypeId} (h : W.heap[b]? = some (.cells #[x, y] t)) (u v : Value) : ((W.setCell ⟨b, 0, none⟩ u).setCell ⟨b, 1, none⟩ v).heap[b]? = some (.cells #[u, v] t) :=
  heap_setCell_same _ b 1 _ _ v (heap_setCell_same W b 0 _ _ u h)

theorem box_thaw {W : World} {b : Nat} {V : Array Value} {t : TypeId} (h : W.heap[b]? = some (.cells V t)) (o : Nat) : W.frozen? ⟨b, o, none⟩ = false := by simp [World.frozen?, h]

def TBytes (w : World) (q : Option Addr) (n : Nat) : Prop := ∀ i, i < n → ∃ ad : Addr, q = some ad ∧ ad.block < w.heap.size ∧ ∃ x : Int, 0 ≤ x ∧ x < 256 ∧ w.cell? (ad.add i) = some (.int .u8 x)

/-- What the loop holds: the box of the words that stay, its row, what stands there. -/
def Holds (w : World) (b : Nat) (n c : Int) (wr : World) : Prop :=
  ∃ W g cap, Stood W n c ∧ wr.heap[b]? = some (.cells #[.int .i64 2, .slice (some ⟨g, 0, none⟩) 8 cap] 26) ∧ RowIn wr (.slice (some ⟨g, 0, none⟩) 8 cap) W ∧ b < wr.heap.size ∧ w.heap.size ≤ b ∧ b ≠ g ∧ Below w.heap.size w wr

set_option maxRecDepth 20000 in
set_option maxHeartbeats 4000000 in
theorem law_tornagain (q : Option Addr) (n cp : Nat) (w : World) (hq : TBytes w q n) :
    Calls Try.prog 4 #[.slice q n cp] w fun e w' => e = .returned (.bool true) ∧ Below w.heap.size w w' := by
  have HQ := hid hq
  clear hq
  have CB := hid (fun W => tbig_calls q n cp W)
  have CN := hid (fun a W ha => new_impl [0, 0] (by decide) a W ha)
  have CR := hid (fun (W : List Int) (h8 : W.length = 8) a X ha => read_impl 2 W (by rw [h8]; decide) a X ha)
  have CP := hid (fun (W : List Int) (m : Int) (h8 : W.length = 8) (cut : Int) (hc : cut ≤ 6) a b X ha hb => put_impl 2 W [m, 2 * m] (by rw [h8]; decide) (by show 2 ≤ 1048576; decide) cut (by omega) a b X ha hb)
  unfold NewPost at CN
  rw [new_stood.1] at CN
  unfold ReadPost at CR
  unfold PutPost at CP
  have HNS := hid new_stood.2
  by_cases hbig : (n : Int) > 1048576
  · have hd := decide_eq_true hbig
    rw [hd] at CB
    go_enter Try.func4, Try.ntmps4
    go_wp2_with (go_at_call 5; refine (CB.out _).mono ?_; rintro e w1 ⟨rfl, e1⟩; rw [e1]; clear e1 w1)
    go_ret
    exact ⟨rfl, Below.refl _ _⟩
  · have hd := decide_eq_false hbig
    have hn : n ≤ 1048576 := by omega
    rw [hd] at CB
    generalize newWords [0, 0] = W0 at *
    have h80 := stood_len HNS.out
    rw [h80] at CN
    dsimp only at CN
    have H80 := hid h80
    clear h80 hd
    go_enter Try.func4, Try.ntmps4
    go_wp2_with (go_at_call 5; refine (CB.out _).mono ?_; rintro e w1 ⟨rfl, e1⟩; rw [e1]; clear e1 w1; refine Hid.out ?_)
    refine hid ?_
    go_wp2_with (go_at_call 11; refine (CN.out _ _ (row_lit_two _ 0 0 _)).mono ?_; rintro e w1 ⟨sv, rfl, hb1, ho1⟩; refine Hid.out ?_)
    refine hid ?_
    have hz1 : w.heap.size + 1 ≤ w1.heap.size := by have := hb1.size; simp at this; exact this
    have HB1 : Hid (Below w.heap.size w w1) := hid (((Below.refl _ _).alloc (Nat.le_refl _) _).trans (hb1.mono (by simp)))
    obtain ⟨g, cap, rfl, hg1, hg2⟩ := own_form ho1 (by omega)
    have HR1 := hid (row_in_own2 H80.out.symm ho1)
    clear hb1 ho1
    obtain ⟨b0, hb0⟩ : ∃ b0, b0 = w1.heap.size := ⟨_, rfl⟩
    have HH : Hid (Holds w b0 0 1 (w1.alloc (.cells #[.int .i64 2, .slice (some ⟨g, 0, none⟩) 8 cap] 26))) := hid ⟨W0, g, cap, HNS.out, by rw [hb0]; exact heap_alloc_new _ _, HR1.out.on ((Below.refl _ _).alloc (Nat.le_refl _) _), by rw [hb0]; simp, by omega, by omega, HB1.out.alloc HB1.out.size _⟩
    go_wp2
    rw [← hb0]
    have HBE := hid hb0
    clear hb0
    go_loopw [4, 5, 6, 7] (fun okv sv cv iv wr => ∃ (i : Nat) (s c : Int), okv = .bool true ∧ sv = .int .i64 s ∧ cv = .int .i64 c ∧ iv = .int .i64 i ∧ i ≤ 60 ∧ 0 ≤ s ∧ s ≤ 60 ∧ 1 ≤ c ∧ c ≤ i + 1 ∧ Hid (Holds w b0 s c wr)) (fun _ _ _ iv _ => 60 - (RowKit.intOf iv).toNat)
    case atStart => exact ⟨0, 0, 1, rfl, rfl, rfl, rfl, by omega, by omega, by omega, by omega, by omega, HH⟩
    case round =>
      obtain ⟨i, s, c, rfl, rfl, rfl, rfl, hi, hs0, hs1, hc0, hc1, HHO⟩ := hrel
      obtain ⟨W, g, cap, hst, hbox, hrow, hbl, hwb, hne, hbel⟩ := HHO.out
      have HB := hid hbel
      have HBX := hid hbox
      have HRW := hid hrow
      have HST := hid hst
      have H8 := hid (stood_len hst)
      clear hst hbox hrow hbel HHO
      by_cases hlt : i < n
      · have b2 : (i : Int) < (n : Int) := by omega
        by_cases h60 : i < 60
        · obtain ⟨ad, rfl, hadl, x, hx0, hx1, hxc⟩ := HQ.out i hlt
          have b1 : (0 : Int) ≤ (i : Int) := by omega
          have b3 : (i : Int) < 60 := by omega
          have kx : wr.cell? (ad.add i) = some (.int .u8 x) := (HB.out.cell (p := ad.add i) (by rw [add_block]; exact hadl)).trans hxc
          obtain ⟨W', hput, hstd⟩ := put_two (m := (i : Int) + 1) (cut := x % 7) HST.out (by omega) (by omega) (by omega) (by omega) (by omega)
          have h88 : W'.length = 8 := by split at hstd <;> exact stood_len hstd
          have CPP := hid (fun a b X ha hb => CP.out W ((i : Int) + 1) H8.out (x % 7) (by omega) a b X ha hb)
          rw [hput] at CPP
          dsimp only at CPP
          rw [h88] at CPP
          have H88 := hid h88
          have k0 : wr.cell? ⟨b0, 0, none⟩ = some (.int .i64 2) := (cell_of_row _ _ 0 _ _ _ HBX.out).trans rfl
          have k1 : wr.cell? ⟨b0, 1, none⟩ = some (.slice (some ⟨g, 0, none⟩) 8 cap) := (cell_of_row _ _ 1 _ _ _ HBX.out).trans rfl
          clear hxc hput h88
          go_wp2_with (go_at_call 8; refine (CPP.out _ _ _ (HRW.out.on ((Below.refl _ _).alloc (Nat.le_refl _) _)) (row_lit_two _ _ _ _)).mono ?_; rintro e w3 ⟨sv, rfl, hb3, ho3⟩; refine Hid.out ?_)
          refine hid ?_
          have hz3 : wr.heap.size + 1 ≤ w3.heap.size := by have := hb3.size; simp at this; exact this
          obtain ⟨g3, cap3, rfl, hg3, hg4⟩ := own_form ho3 (by decide)
          have hgb : wr.heap.size + 1 ≤ g3 := by simpa using hg3
          have HBX3 : Hid (w3.heap[b0]? = _) := hid ((hb3.block b0 (by simp; omega)).trans ((((Below.refl wr.heap.size wr).alloc (Nat.le_refl _) _).block b0 hbl).trans HBX.out))
          have HR3 := hid (row_in_own2 H88.out.symm ho3)
          have HB3 : Hid (Below w.heap.size w w3) := hid (HB.out.trans ((((Below.refl _ _).alloc (Nat.le_refl _) _).trans (hb3.mono (by simp))).mono HB.out.size))
          clear hb3 ho3 hg3 k0 k1 kx
          obtain ⟨W4, hW4⟩ : ∃ W4, W4 = (w3.setCell ⟨b0, 0, none⟩ (.int .i64 2)).setCell ⟨b0, 1, none⟩ (.slice (some ⟨g3, 0, none⟩) 8 cap3) := ⟨_, rfl⟩
          have HBX4 : Hid (W4.heap[b0]? = some (.cells #[.int .i64 2, .slice (some ⟨g3, 0, none⟩) 8 cap3] 26)) := hid (by rw [hW4]; exact box_put HBX3.out _ _)
          have HR4 : Hid (RowIn W4 (.slice (some ⟨g3, 0, none⟩) 8 cap3) W') := hid (by rw [hW4]; exact row_far HR3.out (by omega) _ _)
          have HB4 : Hid (Below w.heap.size w W4) := hid (by rw [hW4]; exact (HB3.out.setCell (p := ⟨b0, 0, none⟩) hwb _).setCell (p := ⟨b0, 1, none⟩) hwb _)
          have hz4 : w3.heap.size ≤ W4.heap.size := by rw [hW4]; simp
          have z0 : w3.cell? ⟨b0, 0, none⟩ = some (.int .i64 2) := (cell_of_row _ _ 0 _ _ _ HBX3.out).trans rfl
          have z1 : w3.cell? ⟨b0, 1, none⟩ = some (.slice (some ⟨g, 0, none⟩) 8 cap) := (cell_of_row _ _ 1 _ _ _ HBX3.out).trans rfl
          have f0 := box_thaw HBX3.out 0
          have f1 := box_thaw HBX3.out 1
          have HW4 := hid hW4
          clear hW4
          by_cases h5 : 5 ≤ x % 7
          · rw [if_pos h5] at hstd
            have CRR := hid (fun a X ha => CR.out W' H88.out a X ha)
            rw [stood_read hstd] at CRR
            have HSD := hid hstd
            clear hstd
            go_wp2_with (go_at_call 9; rw [← HW4.out]; refine (CRR.out _ _ HR4.out).mono ?_; rintro e w5 ⟨sv5, rfl, hb5, ho5⟩; refine Hid.out ?_)
            refine hid ?_
            obtain ⟨g5, cap5, rfl, hg5, hg6⟩ := own_form ho5 (by show 0 < 2; decide)
            have r0 : w5.cell? ⟨g5, 0, none⟩ = some (.int .i64 ((i : Int) + 1)) := (ho5.cellAt 0 (by show 0 < 2; decide)).trans rfl
            have r1 : w5.cell? ⟨g5, 1, none⟩ = some (.int .i64 (2 * ((i : Int) + 1))) := (ho5.cellAt 1 (by show 1 < 2; decide)).trans rfl
            have HFIN : Hid (Holds w b0 ((i : Int) + 1) (c + 1) w5) := hid ⟨W', g3, cap3, HSD.out, (hb5.block b0 (by omega)).trans HBX4.out, HR4.out.on hb5, by have := hb5.size; omega, hwb, by omega, HB4.out.trans (hb5.mono HB4.out.size)⟩
            clear hb5 ho5
            have e1 : (((i : Int) + 1 : Int) != ((i : Int) + 1)) = false := by simp
            have e2 : ((2 * ((i : Int) + 1) : Int) != 2 * ((i : Int) + 1)) = false := by simp
            have e3 : ((c + 1 : Int) != (c + 1)) = false := by simp
            go_wp2
            go_roundw
            case rel => exact ⟨i + 1, (i : Int) + 1, c + 1, rfl, rfl, rfl, by go_num, by omega, by omega, by omega, by omega, by omega, HFIN⟩
            case measure => simp [RowKit.intOf]; omega
          · rw [if_neg h5] at hstd
            have CRR := hid (fun a X ha => CR.out W' H88.out a X ha)
            rw [stood_read hstd] at CRR
            have HSD := hid hstd
            clear hstd
            go_wp2_with (go_at_call 9; rw [← HW4.out]; refine (CRR.out _ _ HR4.out).mono ?_; rintro e w5 ⟨sv5, rfl, hb5, ho5⟩; refine Hid.out ?_)
            refine hid ?_
            obtain ⟨g5, cap5, rfl, hg5, hg6⟩ := own_form ho5 (by show 0 < 2; decide)
            have r0 : w5.cell? ⟨g5, 0, none⟩ = some (.int .i64 (s)) := (ho5.cellAt 0 (by show 0 < 2; decide)).trans rfl
            have r1 : w5.cell? ⟨g5, 1, none⟩ = some (.int .i64 (2 * (s))) := (ho5.cellAt 1 (by show 1 < 2; decide)).trans rfl
            have HFIN : Hid (Holds w b0 (s) (c) w5) := hid ⟨W', g3, cap3, HSD.out, (hb5.block b0 (by omega)).trans HBX4.out, HR4.out.on hb5, by have := hb5.size; omega, hwb, by omega, HB4.out.trans (hb5.mono HB4.out.size)⟩
            clear hb5 ho5
            have e1 : ((s : Int) != (s)) = false := by simp
            have e2 : ((2 * (s) : Int) != 2 * (s)) = false := by simp
            have e3 : ((c : Int) != (c)) = false := by simp
            go_wp2
            go_roundw
            case rel => exact ⟨i + 1, s, c, rfl, rfl, rfl, by go_num, by omega, by omega, by omega, by omega, by omega, HFIN⟩
            case measure => simp [RowKit.intOf]; omega
        · have b3 : ¬ (i : Int) < 60 := by omega
          go_wp2
          go_ret
          exact ⟨rfl, HB.out⟩
      · have b2 : ¬ (i : Int) < (n : Int) := by omega
        go_wp2
        go_ret
        exact ⟨rfl, HB.out⟩
end Go.Proofs.Ytcjlfmocmkkfiaa
