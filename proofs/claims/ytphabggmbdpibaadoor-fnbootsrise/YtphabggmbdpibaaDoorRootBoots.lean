/- BootsOf, the specification's and the program's. -/
import Derived.Test.YtphabggmbdpibaaDoorRootOpen
import Derived.Handy
namespace Go.Proofs.YtphabggmbdpibaaDoor
open Go.RowKit
open Go.Lib (hid)

/-- The number of boots, or none. -/
def bootsOut (key : List UInt8) (s : Int) (l : List Int) (up : Bool) (ps : List (List UInt8)) : Int := if rootB key s l up ps = true then cntN s l else -1

theorem root_one {key : List UInt8} {s : Int} {l : List Int} {up : Bool} {ps : List (List UInt8)} (h : rootB key s l up ps = true) : (readOut s l).2.2 = true ∧ (readOut s l).1 = [cntN s l] ∧ s = 1 := by
  rw [rootB_cnt, Bool.and_eq_true] at h
  have h1 := h.1
  unfold cntB at h1
  rw [Bool.and_eq_true, decide_eq_true_iff] at h1
  refine ⟨h1.1, ?_, h1.2⟩
  have hc := readOut_count h1.1
  unfold cntN
  generalize (readOut s l).1 = L at *
  cases L with
  | nil => simp at hc; omega
  | cons x r => cases r with
    | nil => rfl
    | cons y r2 => simp at hc; omega

set_option maxRecDepth 20000 in
set_option maxHeartbeats 2000000 in
theorem boots_spec (key : ByteArray) (s : Int) (l : List Int) (hl : l.length ≤ 1048576) (up : Bool) (ps : List (List UInt8)) (hs : ∀ p ∈ ps, p.length ≤ 1048576) (hn : ps.length ≤ 1048576) (a1 a2 : Value) (w : World) (h1 : RowIn w a1 l) (h2 : TextsAt w a2 ps) :
    Calls Tryd.prog 49 #[.agg #[.string key, .int .i64 s, a1, .bool up, a2]] w fun e w' => e = .returned (.int .i64 (bootsOut key.data.toList s l up ps)) ∧ Below w.heap.size w w' := by
  have H1 := hid h1
  have CO := hid (fun W (hb : Below w.heap.size w W) => rootOk_spec key s l hl up ps hs hn a1 a2 W (h1.on hb) (h2.on hb))
  have CN := hid (fun W (ha : RowIn W a1 l) => read_spec s l hl a1 W ha)
  unfold ReadPost at CN
  have hone : rootB key.data.toList s l up ps = true → (readOut s l).2.2 = true ∧ (readOut s l).1 = [cntN s l] ∧ s = 1 := root_one
  obtain ⟨p1, c1, rfl, _, _⟩ := h1
  obtain ⟨p2, c2, rfl, _⟩ := h2
  unfold bootsOut
  generalize rootB key.data.toList s l up ps = rb at *
  generalize cntN s l = n0 at *
  generalize (readOut s l).2.1 = cc at *
  generalize (readOut s l).2.2 = ok at *
  generalize (readOut s l).1 = L at *
  obtain ⟨W0, hW0⟩ : ∃ W0, W0 = w.alloc (.cells #[.string key, .int .i64 s, .slice p1 l.length c1, .bool up, .slice p2 ps.length c2] 31) := ⟨_, rfl⟩
  have HB0 : Hid (Below w.heap.size w W0) := hid (by rw [hW0]; exact (Below.refl _ _).alloc (Nat.le_refl _) _)
  have HC0 : Hid (W0.heap[w.heap.size]? = some (.cells #[.string key, .int .i64 s, .slice p1 l.length c1, .bool up, .slice p2 ps.length c2] 31)) := hid (by rw [hW0]; exact heap_alloc_new _ _)
  have hz0 : w.heap.size < W0.heap.size := by rw [hW0]; simp
  obtain ⟨k0, k1, k2, k3, k4⟩ := five_cells HC0.out
  have HW0 := hid hW0
  clear hW0
  cases rb with
  | false =>
    clear hone
    go_enter Tryd.func49, Tryd.ntmps49
    go_wp2_with (go_at_call 104; rw [← HW0.out]; refine (CO.out _ HB0.out).mono ?_; rintro e w1 ⟨rfl, hb1⟩; refine Hid.out ?_)
    refine hid ?_
    have HB1 := hid (HB0.out.trans (hb1.mono HB0.out.size))
    clear hb1
    go_wp2
    go_ret
    exact ⟨rfl, HB1.out⟩
  | true =>
    obtain ⟨rfl, rfl, hs1⟩ := hone rfl
    clear hs1
    clear hone
    go_enter Tryd.func49, Tryd.ntmps49
    go_wp2_with (go_at_call 104; rw [← HW0.out]; refine (CO.out _ HB0.out).mono ?_; rintro e w1 ⟨rfl, hb1⟩; refine Hid.out ?_)
    refine hid ?_
    have HB1 := hid (HB0.out.trans (hb1.mono HB0.out.size))
    have HC1 := hid ((hb1.block _ hz0).trans HC0.out)
    clear hb1 k0 k1 k2 k3 k4
    obtain ⟨k0, k1, k2, k3, k4⟩ := five_cells HC1.out
    go_wp2_with (go_at_call 105; refine (CN.out _ (H1.out.on HB1.out)).mono ?_; rintro e w2 ⟨sv, rfl, hb2, ho2⟩; refine Hid.out ?_)
    refine hid ?_
    have HB2 := hid (HB1.out.trans (hb2.mono HB1.out.size))
    obtain ⟨q, d, rfl, _, hq⟩ := row_in_own ho2
    obtain ⟨g, o, rfl, hg, hcell⟩ := hq (by simp)
    have hc := hcell 0 (by simp)
    rw [Nat.add_zero] at hc
    simp only [List.getElem_cons_zero] at hc
    clear hb2 ho2 hq hcell
    go_wp2
    go_ret
    exact ⟨rfl, HB2.out⟩

theorem counter_size (h : 102 < Tryd.prog.types.size) : (Tryd.prog.types[102]'h).size = 3 := by kernel_rfl

/-- The first three cells of a keyed Root are its counter. -/
theorem counter_of (h : 102 < Tryd.prog.types.size) (x0 x1 x2 x3 x4 : Value) : (List.take (Tryd.prog.types[102]'h).size [x0, x1, x2, x3, x4]).toArray = #[x0, x1, x2] := by
  rw [counter_size h]
  rfl

theorem cboots_calls (x0 x1 : Value) (n : Int) (w : World) :
    Calls Tryd.prog 56 #[.agg #[x0, x1, .int .i64 n]] w fun e w' => e = .returned (.int .i64 n) ∧ Below w.heap.size w w' := by
  go_enter Tryd.func56, Tryd.ntmps56
  go_wp2
  go_ret
  exact ⟨rfl, (Below.refl _ _).alloc (Nat.le_refl _) _⟩

set_option maxRecDepth 20000 in
set_option maxHeartbeats 2000000 in
theorem boots_impl (key : ByteArray) (s : Int) (l : List Int) (hl : l.length ≤ 1048576) (up : Bool) (ps : List (List UInt8)) (hn : ps.length ≤ 1048576) (a1 a2 : Value) (w : World) (h1 : RowIn w a1 l) (h2 : TextsAt w a2 ps) (hT : Tab w) (hG : 0 < w.heap.size) :
    Calls Tryd.prog 20 #[.agg #[.string key, .int .i64 s, a1, .bool up, a2]] w fun e w' => e = .returned (.int .i64 (bootsOut key.data.toList s l up ps)) ∧ Below w.heap.size w w' := by
  have CO := hid (fun W (hb : Below w.heap.size w W) => openRoot_calls key s l hl up ps hn a1 a2 W (h1.on hb) (h2.on hb) (tab_on hT hG hb) (Nat.lt_of_lt_of_le hG hb.size))
  unfold openV at CO
  obtain ⟨p1, c1, rfl, _, _⟩ := h1
  obtain ⟨p2, c2, rfl, _⟩ := h2
  clear hT
  unfold bootsOut
  generalize rootB _ _ _ _ _ = rb at *
  generalize cntN s l = n0 at *
  cases rb with
  | false =>
    rw [if_neg (by decide)] at CO
    go_enter Tryd.func20, Tryd.ntmps20
    go_wp2_with (go_at_call 55; refine (CO.out _ ((Below.refl _ _).alloc (Nat.le_refl _) _)).mono ?_; rintro e w1 ⟨rfl, hb1⟩; refine Hid.out ?_)
    refine hid ?_
    have HB1 := hid (((Below.refl w.heap.size w).alloc (Nat.le_refl _) _).trans (hb1.mono ((Below.refl w.heap.size w).alloc (Nat.le_refl _) _).size))
    clear hb1
    go_wp2
    go_ret
    exact ⟨rfl, HB1.out⟩
  | true =>
    rw [if_pos rfl] at CO
    go_enter Tryd.func20, Tryd.ntmps20
    go_wp2_with (go_at_call 55; refine (CO.out _ ((Below.refl _ _).alloc (Nat.le_refl _) _)).mono ?_; rintro e w1 ⟨rfl, hb1⟩; refine Hid.out ?_)
    refine hid ?_
    have HB1 := hid (((Below.refl w.heap.size w).alloc (Nat.le_refl _) _).trans (hb1.mono ((Below.refl w.heap.size w).alloc (Nat.le_refl _) _).size))
    clear hb1
    go_wp2_with (go_at_call 56; rw [counter_of]; refine (cboots_calls _ _ _ _).mono ?_; rintro e w2 ⟨rfl, hb2⟩; refine Hid.out ?_)
    refine hid ?_
    have HB2 := hid (HB1.out.trans (hb2.mono HB1.out.size))
    clear hb2
    go_wp2
    go_ret
    exact ⟨rfl, HB2.out⟩
end Go.Proofs.YtphabggmbdpibaaDoor
