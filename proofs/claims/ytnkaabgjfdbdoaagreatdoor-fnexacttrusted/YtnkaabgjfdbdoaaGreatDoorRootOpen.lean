/- The program opens a Root, and says whether it is a right one. -/
import Derived.Test.YtnkaabgjfdbdoaaGreatDoorRootImpl
namespace Go.Proofs.YtnkaabgjfdbdoaaGreatDoor
open Go.RowKit
open Go.Lib (hid)

theorem rootB_cnt (key : List UInt8) (s : Int) (l : List Int) (up : Bool) (ps : List (List UInt8)) : rootB key s l up ps = (cntB s l && (secretB key && areB up ps)) := by
  unfold rootB cntB areB
  rw [Bool.and_assoc]

/-- What the program has of a Root that it opened. -/
def openV (key : ByteArray) (s : Int) (l : List Int) (up : Bool) (ps : List (List UInt8)) (a1 a2 : Value) : Value :=
  if rootB key.data.toList s l up ps = true then .iface 207 (.agg #[.int .i64 s, a1, .int .i64 (cntN s l), .string key, a2]) else .nilIface

set_option maxRecDepth 20000 in
set_option maxHeartbeats 4000000 in
theorem openRoot_calls (key : ByteArray) (s : Int) (l : List Int) (hl : l.length ≤ 1048576) (up : Bool) (ps : List (List UInt8)) (hn : ps.length ≤ 1048576) (a1 a2 : Value) (w : World) (h1 : RowIn w a1 l) (h2 : TextsAt w a2 ps) (hT : Tab w) (hG : 0 < w.heap.size) :
    Calls Tryz.prog 99 #[.agg #[.string key, .int .i64 s, a1, .bool up, a2]] w fun e w' => e = .returned (.tuple #[openV key s l up ps a1 a2, .bool (rootB key.data.toList s l up ps)]) ∧ Below w.heap.size w w' := by
  have H1 := hid h1
  have CC := hid (fun W (ha : RowIn W a1 l) => readCounter_calls s l hl a1 W ha)
  obtain ⟨p1, c1, rfl, _, _⟩ := h1
  obtain ⟨p2, c2, rfl, hp2⟩ := h2
  have CA := hid (fun W (hb : Below w.heap.size w W) => areRegs_calls up ps p2 c2 W (TextsAt.on ⟨p2, c2, rfl, hp2⟩ hb) hn (tab_on hT hG hb) (Nat.lt_of_lt_of_le hG hb.size))
  have CK := hid (fun W (hb : Below w.heap.size w W) => kind_impl key W (tab_on hT hG hb) (Nat.lt_of_lt_of_le hG hb.size))
  have HSN := hid (secret_node key)
  clear hT hp2
  unfold openV
  rw [rootB_cnt]
  unfold cntV at CC
  generalize cntB s l = bc at *
  generalize cntN s l = n0 at *
  generalize areB up ps = ab at *
  generalize (nodeOf key).1 = kk at *
  generalize secretB key.data.toList = sb at *
  obtain ⟨W0, hW0⟩ : ∃ W0, W0 = w.alloc (.cells #[.string key, .int .i64 s, .slice p1 l.length c1, .bool up, .slice p2 ps.length c2] 41) := ⟨_, rfl⟩
  have HB0 : Hid (Below w.heap.size w W0) := hid (by rw [hW0]; exact (Below.refl _ _).alloc (Nat.le_refl _) _)
  have HC0 : Hid (W0.heap[w.heap.size]? = some (.cells #[.string key, .int .i64 s, .slice p1 l.length c1, .bool up, .slice p2 ps.length c2] 41)) := hid (by rw [hW0]; exact heap_alloc_new _ _)
  have hz0 : w.heap.size < W0.heap.size := by rw [hW0]; simp
  have HW0 := hid hW0
  clear hW0
  cases bc with
  | false =>
    rw [if_neg (by decide)] at CC
    go_enter Tryz.func99, Tryz.ntmps99
    go_wp2_with (go_at_call 148; rw [← HW0.out]; refine (CC.out _ (H1.out.on HB0.out)).mono ?_; rintro e w1 ⟨rfl, hb1⟩; refine Hid.out ?_)
    refine hid ?_
    have HB1 := hid (HB0.out.trans (hb1.mono HB0.out.size))
    clear hb1
    go_wp2
    go_ret2
    exact ⟨rfl, HB1.out.alloc HB1.out.size _⟩
  | true =>
    rw [if_pos rfl] at CC
    go_enter Tryz.func99, Tryz.ntmps99
    go_wp2_with (go_at_call 148; rw [← HW0.out]; refine (CC.out _ (H1.out.on HB0.out)).mono ?_; rintro e w1 ⟨rfl, hb1⟩; refine Hid.out ?_)
    refine hid ?_
    have HB1 := hid (HB0.out.trans (hb1.mono HB0.out.size))
    have HC1 := hid ((hb1.block _ hz0).trans HC0.out)
    have hz1 : w.heap.size < w1.heap.size := Nat.lt_of_lt_of_le hz0 hb1.size
    obtain ⟨k0, k1, k2, k3, k4⟩ := five_cells HC1.out
    clear hb1
    cases sb with
    | false =>
      have hk : ((kk : Int) != 2) = true := by rw [bne_iff_ne]; have := of_decide_eq_false HSN.out.symm; omega
      go_wp2_with (go_at_call 40; refine (CK.out _ (HB1.out.alloc HB1.out.size _)).mono ?_; rintro e w5 ⟨rfl, hb5⟩; refine Hid.out ?_)
      refine hid ?_
      have HB5 := hid ((HB1.out.alloc HB1.out.size _).trans (hb5.mono (HB1.out.alloc HB1.out.size _).size))
      clear hb5
      go_wp2
      go_ret2
      exact ⟨rfl, HB5.out⟩
    | true =>
      have hk : ((kk : Int) != 2) = false := by have := of_decide_eq_true HSN.out.symm; rw [this]; rfl
      obtain ⟨W2, hW2⟩ : ∃ W2, W2 = w1.alloc (.cells #[.int .i64 s, .slice p1 l.length c1, .int .i64 n0] 174) := ⟨_, rfl⟩
      have HB2 : Hid (Below w.heap.size w W2) := hid (by rw [hW2]; exact HB1.out.alloc HB1.out.size _)
      have HC2 : Hid (W2.heap[w.heap.size]? = some (.cells #[.string key, .int .i64 s, .slice p1 l.length c1, .bool up, .slice p2 ps.length c2] 41)) := hid (by rw [hW2]; exact (((Below.refl w1.heap.size w1).alloc (Nat.le_refl _) _).block _ hz1).trans HC1.out)
      have HD2 : Hid (W2.heap[w1.heap.size]? = some (.cells #[.int .i64 s, .slice p1 l.length c1, .int .i64 n0] 174)) := hid (by rw [hW2]; exact heap_alloc_new _ _)
      have hz2 : w1.heap.size < W2.heap.size := by rw [hW2]; simp
      have HW2 := hid hW2
      clear hW2
      go_wp2_with (go_at_call 40; rw [← HW2.out]; refine (CK.out _ HB2.out).mono ?_; rintro e w5 ⟨rfl, hb5⟩; refine Hid.out ?_)
      refine hid ?_
      have HB5 := hid (HB2.out.trans (hb5.mono HB2.out.size))
      have HC5 := hid ((hb5.block _ (Nat.lt_trans hz1 hz2)).trans HC2.out)
      have HD5 := hid ((hb5.block _ hz2).trans HD2.out)
      have hz5 : w1.heap.size < w5.heap.size := Nat.lt_of_lt_of_le hz2 hb5.size
      clear hb5 k0 k1 k2 k3 k4
      obtain ⟨k0, k1, k2, k3, k4⟩ := five_cells HC5.out
      go_wp2_with (go_at_call 149; refine (CA.out _ HB5.out).mono ?_; rintro e w6 ⟨rfl, hb6⟩; refine Hid.out ?_)
      refine hid ?_
      have HB6 := hid (HB5.out.trans (hb6.mono HB5.out.size))
      have HC6 := hid ((hb6.block _ (Nat.lt_trans hz1 hz5)).trans HC5.out)
      have HD6 := hid ((hb6.block _ hz5).trans HD5.out)
      clear hb6 k0 k1 k2 k3 k4
      obtain ⟨k0, k1, k2, k3, k4⟩ := five_cells HC6.out
      obtain ⟨j0, j1, j2⟩ := three_cells HD6.out
      cases ab with
      | false =>
        go_wp2
        go_ret2
        exact ⟨rfl, HB6.out⟩
      | true =>
        go_wp2
        go_ret2
        exact ⟨rfl, HB6.out⟩

set_option maxRecDepth 20000 in
set_option maxHeartbeats 2000000 in
theorem rootOk_impl (key : ByteArray) (s : Int) (l : List Int) (hl : l.length ≤ 1048576) (up : Bool) (ps : List (List UInt8)) (hn : ps.length ≤ 1048576) (a1 a2 : Value) (w : World) (h1 : RowIn w a1 l) (h2 : TextsAt w a2 ps) (hT : Tab w) (hG : 0 < w.heap.size) :
    Calls Tryz.prog 41 #[.agg #[.string key, .int .i64 s, a1, .bool up, a2]] w fun e w' => e = .returned (.bool (rootB key.data.toList s l up ps)) ∧ Below w.heap.size w w' := by
  have CO := hid (fun W (hb : Below w.heap.size w W) => openRoot_calls key s l hl up ps hn a1 a2 W (h1.on hb) (h2.on hb) (tab_on hT hG hb) (Nat.lt_of_lt_of_le hG hb.size))
  obtain ⟨p1, c1, rfl, _, _⟩ := h1
  obtain ⟨p2, c2, rfl, _⟩ := h2
  clear hT
  generalize openV _ _ _ _ _ _ _ = ov at *
  generalize rootB _ _ _ _ _ = rb at *
  go_enter Tryz.func41, Tryz.ntmps41
  go_wp2_with (go_at_call 99; refine (CO.out _ ((Below.refl _ _).alloc (Nat.le_refl _) _)).mono ?_; rintro e w1 ⟨rfl, hb1⟩; refine Hid.out ?_)
  refine hid ?_
  have HB1 := hid (((Below.refl w.heap.size w).alloc (Nat.le_refl _) _).trans (hb1.mono ((Below.refl w.heap.size w).alloc (Nat.le_refl _) _).size))
  clear hb1
  go_wp2
  go_ret
  exact ⟨rfl, HB1.out⟩
end Go.Proofs.YtnkaabgjfdbdoaaGreatDoor
