/- RootExtend, the specification's and the program's. -/
import Derived.Test.YtnlnfjchnjdfoaaDoorCopyRoot
import Derived.Test.YtnlnfjchnjdfoaaDoorExtImpl2
namespace Go.Proofs.YtnlnfjchnjdfoaaDoor
open Go.RowKit
open Go.Lib (hid)

/-- Is there a Root extended. -/
def rextB (key : List UInt8) (s : Int) (l : List Int) (up : Bool) (ps : List (List UInt8)) (at' : Int) (m : List UInt8) : Bool := rootB key s l up ps && (up && (extOut ps at' m).2)

/-- What RootExtend answers: key, size, words, registers. -/
def rextOut (key : ByteArray) (s : Int) (l : List Int) (up : Bool) (ps : List (List UInt8)) (at' : Int) (m : List UInt8) : ByteArray × Int × List Int × List (List UInt8) :=
  if rextB key.data.toList s l up ps at' m = true then (key, s, l, (extOut ps at' m).1) else (⟨#[]⟩, 0, [], [])

def RExtPost (key : ByteArray) (s : Int) (l : List Int) (up : Bool) (ps : List (List UInt8)) (at' : Int) (m : List UInt8) (w : World) (e : Ending) (w' : World) : Prop :=
  ∃ sv1 sv2, e = .returned (.tuple #[.agg #[.string (rextOut key s l up ps at' m).1, .int .i64 (rextOut key s l up ps at' m).2.1, sv1, .bool (rextB key.data.toList s l up ps at' m), sv2], .bool (rextB key.data.toList s l up ps at' m)]) ∧ Below w.heap.size w w'
    ∧ w'.ownsRow w.heap.size 2 1 sv1 (rextOut key s l up ps at' m).2.2.1.length (ints (rextOut key s l up ps at' m).2.2.1) ∧ w'.ownsRow w.heap.size 9 1 sv2 (rextOut key s l up ps at' m).2.2.2.length (strs (rextOut key s l up ps at' m).2.2.2)
    ∧ (∀ j k, sv1.ownBlock = some j → sv2.ownBlock = some k → j ≠ k)

theorem reg_len {ps : List (List UInt8)} (h : regB ps = true) : ps.length = 8 := ((regB_iff ps).1 h).1

theorem root_up {key : List UInt8} {s : Int} {l : List Int} {ps : List (List UInt8)} (h : rootB key s l true ps = true) : regB ps = true := by
  rw [rootB_cnt] at h
  rw [Bool.and_eq_true, Bool.and_eq_true] at h
  exact h.2.2

set_option maxRecDepth 20000 in
set_option maxHeartbeats 4000000 in
theorem rext_spec (key : ByteArray) (s : Int) (l : List Int) (hl : l.length ≤ 1048576) (up : Bool) (ps : List (List UInt8)) (hs : ∀ p ∈ ps, p.length ≤ 1048576) (hn : ps.length ≤ 1048576) (at' : Int) (m : ByteArray) (hm : m.size ≤ 1048576) (a1 a2 : Value) (w : World) (h1 : RowIn w a1 l) (h2 : TextsAt w a2 ps) :
    Calls Tryd.prog 26 #[.agg #[.string key, .int .i64 s, a1, .bool up, a2], .int .i64 at', .string m] w (RExtPost key s l up ps at' m.data.toList w) := by
  unfold RExtPost
  have H1 := hid h1
  have H2 := hid h2
  have CO := hid (fun W (hb : Below w.heap.size w W) => rootOk_spec key s l hl up ps hs hn a1 a2 W (h1.on hb) (h2.on hb))
  have CE := hid (fun W (hb : Below w.heap.size w W) => ext_spec ps hs hn at' m hm a2 W (h2.on hb))
  unfold ExtPost at CE
  have CRC := hid (fun W (b7 : 0 < l.length) (b6 : 0 < ps.length) (hb : Below w.heap.size w W) => rcopy_spec key s l hl b7 up ps hn b6 a1 a2 W (h1.on hb) (h2.on hb))
  obtain ⟨p1, c1, rfl, _, _⟩ := h1
  obtain ⟨p2, c2, rfl, _⟩ := h2
  obtain ⟨W0, hW0⟩ : ∃ W0, W0 = (w.alloc (.cells #[.string key, .int .i64 s, .slice p1 l.length c1, .bool up, .slice p2 ps.length c2] 45)).alloc (.cells #[.string ⟨#[]⟩, .int .i64 0, .slice none 0 0, .bool false, .slice none 0 0] 45) := ⟨_, rfl⟩
  have HB0 : Hid (Below w.heap.size w W0) := hid (by rw [hW0]; exact ((Below.refl _ _).alloc (Nat.le_refl _) _).alloc (by simp) _)
  have HV0 : Hid (W0.heap[w.heap.size]? = some (.cells #[.string key, .int .i64 s, .slice p1 l.length c1, .bool up, .slice p2 ps.length c2] 45)) := hid (by rw [hW0]; exact heap_two_old _ _)
  have HZ0 : Hid (W0.heap[w.heap.size + 1]? = some (.cells #[.string ⟨#[]⟩, .int .i64 0, .slice none 0 0, .bool false, .slice none 0 0] 45)) := hid (by rw [hW0]; exact heap_two_new _ _)
  have hz0 : w.heap.size + 1 < W0.heap.size := by rw [hW0]; simp
  obtain ⟨k0, k1, k2, k3, k4⟩ := five_cells HV0.out
  have HW0 := hid hW0
  clear hW0
  cases hrb : rootB key.data.toList s l up ps with
  | false =>
    have HBB : Hid (rextB key.data.toList s l up ps at' m.data.toList = false) := hid (by unfold rextB; rw [hrb]; rfl)
    have HO : Hid (rextOut key s l up ps at' m.data.toList = (⟨#[]⟩, 0, [], [])) := hid (by unfold rextOut; rw [HBB.out, if_neg (by decide)])
    rw [hrb] at CO
    rw [HBB.out, HO.out]
    clear hrb
    go_enter Tryd.func26, Tryd.ntmps26
    go_wp2_with (go_at_call 67; rw [← HW0.out]; refine (CO.out _ HB0.out).mono ?_; rintro e w1 ⟨rfl, hb1⟩; refine Hid.out ?_)
    refine hid ?_
    have HB1 := hid (HB0.out.trans (hb1.mono HB0.out.size))
    have HZ1 := hid ((hb1.block _ hz0).trans HZ0.out)
    clear hb1 k0 k1 k2 k3 k4
    obtain ⟨z0, z1, z2, z3, z4⟩ := five_cells HZ1.out
    have f0 := five_thaw HZ1.out 0
    have f1 := five_thaw HZ1.out 1
    have f2 := five_thaw HZ1.out 2
    have f3 := five_thaw HZ1.out 3
    have f4 := five_thaw HZ1.out 4
    go_wp2
    refine bodyPost_ret (v := .tuple #[.agg #[.string ⟨#[]⟩, .int .i64 0, .slice none 0 0, .bool false, .slice none 0 0], .bool false]) (by simp [results, Tryd.results26, go_sem, z0, z1, z2, z3, z4]) rfl ⟨_, _, rfl, ?_, World.ownsRow_nil _ _ _ _, World.ownsRow_nil _ _ _ _, fun j k hj => by cases hj⟩
    exact below_five HB1.out (Nat.le_succ _) _ _ _ _ _
  | true =>
    have hpos := root_words hrb
    rw [hrb] at CO
    cases up with
    | false =>
      have HBB : Hid (rextB key.data.toList s l false ps at' m.data.toList = false) := hid (by unfold rextB; simp)
      have HO : Hid (rextOut key s l false ps at' m.data.toList = (⟨#[]⟩, 0, [], [])) := hid (by unfold rextOut; rw [HBB.out, if_neg (by decide)])
      rw [HBB.out, HO.out]
      clear hrb
      go_enter Tryd.func26, Tryd.ntmps26
      go_wp2_with (go_at_call 67; rw [← HW0.out]; refine (CO.out _ HB0.out).mono ?_; rintro e w1 ⟨rfl, hb1⟩; refine Hid.out ?_)
      refine hid ?_
      have HB1 := hid (HB0.out.trans (hb1.mono HB0.out.size))
      have HZ1 := hid ((hb1.block _ hz0).trans HZ0.out)
      have HV1 := hid ((hb1.block w.heap.size (by omega)).trans HV0.out)
      clear hb1 k0 k1 k2 k3 k4
      obtain ⟨k0, k1, k2, k3, k4⟩ := five_cells HV1.out
      obtain ⟨z0, z1, z2, z3, z4⟩ := five_cells HZ1.out
      have f0 := five_thaw HZ1.out 0
      have f1 := five_thaw HZ1.out 1
      have f2 := five_thaw HZ1.out 2
      have f3 := five_thaw HZ1.out 3
      have f4 := five_thaw HZ1.out 4
      go_wp2
      refine bodyPost_ret (v := .tuple #[.agg #[.string ⟨#[]⟩, .int .i64 0, .slice none 0 0, .bool false, .slice none 0 0], .bool false]) (by simp [results, Tryd.results26, go_sem, z0, z1, z2, z3, z4]) rfl ⟨_, _, rfl, ?_, World.ownsRow_nil _ _ _ _, World.ownsRow_nil _ _ _ _, fun j k hj => by cases hj⟩
      exact below_five HB1.out (Nat.le_succ _) _ _ _ _ _
    | true =>
      have hpos6 : 0 < ps.length := by have h8 := reg_len (root_up hrb); omega
      cases heb : (extOut ps at' m.data.toList).2 with
      | false =>
        have HBB : Hid (rextB key.data.toList s l true ps at' m.data.toList = false) := hid (by unfold rextB; rw [heb]; simp)
        have HO : Hid (rextOut key s l true ps at' m.data.toList = (⟨#[]⟩, 0, [], [])) := hid (by unfold rextOut; rw [HBB.out, if_neg (by decide)])
        rw [HBB.out, HO.out]
        rw [heb] at CE
        clear hrb heb
        go_enter Tryd.func26, Tryd.ntmps26
        go_wp2_with (go_at_call 67; rw [← HW0.out]; refine (CO.out _ HB0.out).mono ?_; rintro e w1 ⟨rfl, hb1⟩; refine Hid.out ?_)
        refine hid ?_
        have HB1 := hid (HB0.out.trans (hb1.mono HB0.out.size))
        have HZ1 := hid ((hb1.block _ hz0).trans HZ0.out)
        have HV1 := hid ((hb1.block w.heap.size (by omega)).trans HV0.out)
        have hz1 := hb1.size
        clear hb1 k0 k1 k2 k3 k4
        obtain ⟨k0, k1, k2, k3, k4⟩ := five_cells HV1.out
        go_wp2_with (go_at_call 13; refine (CE.out _ HB1.out).mono ?_; rintro e w2 ⟨sve, rfl, hb2, hoe⟩; refine Hid.out ?_)
        refine hid ?_
        have HB2 := hid (HB1.out.trans (hb2.mono HB1.out.size))
        have HZ2 := hid ((hb2.block (w.heap.size + 1) (by omega)).trans HZ1.out)
        clear hb2 k0 k1 k2 k3 k4 hoe
        obtain ⟨z0, z1, z2, z3, z4⟩ := five_cells HZ2.out
        have f0 := five_thaw HZ2.out 0
        have f1 := five_thaw HZ2.out 1
        have f2 := five_thaw HZ2.out 2
        have f3 := five_thaw HZ2.out 3
        have f4 := five_thaw HZ2.out 4
        go_wp2
        refine bodyPost_ret (v := .tuple #[.agg #[.string ⟨#[]⟩, .int .i64 0, .slice none 0 0, .bool false, .slice none 0 0], .bool false]) (by simp [results, Tryd.results26, go_sem, z0, z1, z2, z3, z4]) rfl ⟨_, _, rfl, ?_, World.ownsRow_nil _ _ _ _, World.ownsRow_nil _ _ _ _, fun j k hj => by cases hj⟩
        exact below_five HB2.out (Nat.le_succ _) _ _ _ _ _
      | true =>
        have HBB : Hid (rextB key.data.toList s l true ps at' m.data.toList = true) := hid (by unfold rextB; rw [hrb, heb]; rfl)
        have HO : Hid (rextOut key s l true ps at' m.data.toList = (key, s, l, (extOut ps at' m.data.toList).1)) := hid (by unfold rextOut; rw [HBB.out, if_pos rfl])
        rw [HBB.out, HO.out]
        rw [heb] at CE
        clear hrb heb
        generalize (extOut ps at' m.data.toList).1 = L at *
        go_enter Tryd.func26, Tryd.ntmps26
        go_wp2_with (go_at_call 67; rw [← HW0.out]; refine (CO.out _ HB0.out).mono ?_; rintro e w1 ⟨rfl, hb1⟩; refine Hid.out ?_)
        refine hid ?_
        have HB1 := hid (HB0.out.trans (hb1.mono HB0.out.size))
        have HZ1 := hid ((hb1.block _ hz0).trans HZ0.out)
        have HV1 := hid ((hb1.block w.heap.size (by omega)).trans HV0.out)
        have hz1 := hb1.size
        clear hb1 k0 k1 k2 k3 k4
        obtain ⟨k0, k1, k2, k3, k4⟩ := five_cells HV1.out
        go_wp2_with (go_at_call 13; refine (CE.out _ HB1.out).mono ?_; rintro e w2 ⟨sve, rfl, hb2, hoe⟩; refine Hid.out ?_)
        refine hid ?_
        have HB2 := hid (HB1.out.trans (hb2.mono HB1.out.size))
        have HZ2 := hid ((hb2.block (w.heap.size + 1) (by omega)).trans HZ1.out)
        have HV2 := hid ((hb2.block w.heap.size (by omega)).trans HV1.out)
        have hz2 := hb2.size
        obtain ⟨pe, ce, rfl, _⟩ := texts_of hoe
        have HOE := hid hoe
        clear hb2 k0 k1 k2 k3 k4 hoe
        obtain ⟨k0, k1, k2, k3, k4⟩ := five_cells HV2.out
        go_wp2_with (go_at_call 68; refine (CRC.out _ hpos hpos6 HB2.out).mono ?_; rintro e w3 ⟨sv1, sv2, rfl, hb3, ho1, ho2, _⟩; refine Hid.out ?_)
        refine hid ?_
        have HB3 := hid (HB2.out.trans (hb3.mono HB2.out.size))
        have HZ3 := hid ((hb3.block (w.heap.size + 1) (by omega)).trans HZ2.out)
        have hz3 := hb3.size
        have HOE3 := hid (own_below HOE.out hb3)
        have HO1 := hid ho1
        obtain ⟨q1, d1, rfl, _, _⟩ := row_in_own ho1
        obtain ⟨q2, d2, rfl, _⟩ := texts_of ho2
        clear hb3 k0 k1 k2 k3 k4 ho1 ho2
        obtain ⟨z0, z1, z2, z3, z4⟩ := five_cells HZ3.out
        have f0 := five_thaw HZ3.out 0
        have f1 := five_thaw HZ3.out 1
        have f2 := five_thaw HZ3.out 2
        have f3 := five_thaw HZ3.out 3
        have f4 := five_thaw HZ3.out 4
        have hz4 : w.heap.size + 1 < w3.heap.size := by omega
        have hne : ¬ w.heap.size + 1 = w3.heap.size := by omega
        have hne2 : ¬ w3.heap.size = w.heap.size + 1 := by omega
        go_wp2
        have HN1 := hid (show (Value.slice q1 l.length d1).ownBlock ≠ some (w.heap.size + 1) from fun e => by have := (HO1.out.lt _ e).1; omega)
        have HN2 := hid (show (Value.slice pe L.length ce).ownBlock ≠ some (w.heap.size + 1) from fun e => by have := (HOE.out.lt _ e).1; omega)
        have HD : Hid (∀ j k, (Value.slice q1 l.length d1).ownBlock = some j → (Value.slice pe L.length ce).ownBlock = some k → j ≠ k) := hid (fun j k hj hk => by have h1 := (HO1.out.lt j hj).1; have h2 := (HOE.out.lt k hk).2; omega)
        have hbe := below_five HB3.out (Nat.le_succ _) (.string key) (.int .i64 s) (.slice q1 l.length d1) (.bool true) (.slice pe L.length ce)
        refine bodyPost_ret (v := .tuple #[.agg #[.string key, .int .i64 s, .slice q1 l.length d1, .bool true, .slice pe L.length ce], .bool true]) (by simp [results, Tryd.results26, go_sem, cell_alloc_old, hz4, z0, z1, z2, z3, z4]) rfl ⟨_, _, rfl, hbe.alloc hbe.size _, ?_, ?_, HD.out⟩
        · exact own_below (own_five (own_raise HO1.out HB2.out.size) HN1.out _ _ _ _ _) ((Below.refl _ _).alloc (Nat.le_refl _) _)
        · exact own_below (own_five (own_base HOE3.out HB1.out.size) HN2.out _ _ _ _ _) ((Below.refl _ _).alloc (Nat.le_refl _) _)

set_option maxRecDepth 20000 in
set_option maxHeartbeats 2000000 in
theorem kext_calls (x0 x1 x2 x3 : Value) (ps : List (List UInt8)) (hn : ps.length ≤ 1048576) (at' : Int) (m : ByteArray) (p : Option Addr) (c : Nat) (w : World) (ha : TextsAt w (.slice p ps.length c) ps) (hT : Tab w) (hG : 0 < w.heap.size) :
    Calls Tryd.prog 217 #[.agg #[x0, x1, x2, x3, .slice p ps.length c], .int .i64 at', .string m] w (ExtPost ps at' m.data.toList w) := by
  unfold ExtPost
  have HB0 : Hid (Below w.heap.size w (w.alloc (.cells #[x0, x1, x2, x3, .slice p ps.length c] 153))) := hid ((Below.refl _ _).alloc (Nat.le_refl _) _)
  have CE := hid (fun W (hb : Below w.heap.size w W) => ext_impl ps hn at' m p c W (ha.on hb) (tab_on hT hG hb) (Nat.lt_of_lt_of_le hG hb.size))
  unfold ExtPost at CE
  generalize (extOut ps at' m.data.toList).2 = b at *
  generalize (extOut ps at' m.data.toList).1 = L at *
  clear ha hT hG
  go_enter Tryd.func217, Tryd.ntmps217
  go_wp2_with (go_at_call 15; refine (CE.out _ HB0.out).mono ?_; rintro e w1 ⟨sv1, rfl, hb1, ho1⟩; refine Hid.out ?_)
  refine hid ?_
  have HB1 := hid (HB0.out.trans (hb1.mono HB0.out.size))
  have HO1 := hid ho1
  clear hb1 ho1
  go_wp2
  go_ret2
  exact ⟨_, rfl, HB1.out, own_base HO1.out HB0.out.size⟩

theorem down_none {key : List UInt8} {s : Int} {l : List Int} {ps : List (List UInt8)} (h : rootB key s l false ps = true) (at' : Int) (m : List UInt8) : (extOut ps at' m).2 = false := by
  rw [rootB_cnt, Bool.and_eq_true, Bool.and_eq_true] at h
  have h2 := h.2.2
  unfold areB at h2
  rw [if_neg (by decide), decide_eq_true_iff] at h2
  unfold extOut
  rw [if_neg (fun hc => by have h8 := ((regB_iff ps).1 hc.1).1; omega)]

set_option maxRecDepth 20000 in
set_option maxHeartbeats 4000000 in
theorem rext_impl (key : ByteArray) (s : Int) (l : List Int) (hl : l.length ≤ 1048576) (up : Bool) (ps : List (List UInt8)) (hn : ps.length ≤ 1048576) (at' : Int) (m : ByteArray) (a1 a2 : Value) (w : World) (h1 : RowIn w a1 l) (h2 : TextsAt w a2 ps) (hT : Tab w) (hG : 0 < w.heap.size) :
    Calls Tryd.prog 28 #[.agg #[.string key, .int .i64 s, a1, .bool up, a2], .int .i64 at', .string m] w (RExtPost key s l up ps at' m.data.toList w) := by
  unfold RExtPost
  have H1 := hid h1
  have CO := hid (fun W (hb : Below w.heap.size w W) => openRoot_calls key s l hl up ps hn a1 a2 W (h1.on hb) (h2.on hb) (tab_on hT hG hb) (Nat.lt_of_lt_of_le hG hb.size))
  unfold openV at CO
  have H2 := hid h2
  have HTG := hid (fun W (hb : Below w.heap.size w W) => And.intro (tab_on hT hG hb) (Nat.lt_of_lt_of_le hG hb.size))
  obtain ⟨p1, c1, rfl, _, _⟩ := h1
  obtain ⟨p2, c2, rfl, _⟩ := h2
  have CE := hid (fun x0 x1 x2 x3 W (hb : Below w.heap.size w W) => kext_calls x0 x1 x2 x3 ps hn at' m p2 c2 W (H2.out.on hb) (HTG.out W hb).1 (HTG.out W hb).2)
  unfold ExtPost at CE
  clear hT
  obtain ⟨W0, hW0⟩ : ∃ W0, W0 = (w.alloc (.cells #[.string key, .int .i64 s, .slice p1 l.length c1, .bool up, .slice p2 ps.length c2] 45)).alloc (.cells #[.string ⟨#[]⟩, .int .i64 0, .slice none 0 0, .bool false, .slice none 0 0] 45) := ⟨_, rfl⟩
  have HB0 : Hid (Below w.heap.size w W0) := hid (by rw [hW0]; exact ((Below.refl _ _).alloc (Nat.le_refl _) _).alloc (by simp) _)
  have HV0 : Hid (W0.heap[w.heap.size]? = some (.cells #[.string key, .int .i64 s, .slice p1 l.length c1, .bool up, .slice p2 ps.length c2] 45)) := hid (by rw [hW0]; exact heap_two_old _ _)
  have HZ0 : Hid (W0.heap[w.heap.size + 1]? = some (.cells #[.string ⟨#[]⟩, .int .i64 0, .slice none 0 0, .bool false, .slice none 0 0] 45)) := hid (by rw [hW0]; exact heap_two_new _ _)
  have hz0 : w.heap.size + 1 < W0.heap.size := by rw [hW0]; simp
  obtain ⟨k0, k1, k2, k3, k4⟩ := five_cells HV0.out
  have HW0 := hid hW0
  clear hW0
  cases hrb : rootB key.data.toList s l up ps with
  | false =>
    have HBB : Hid (rextB key.data.toList s l up ps at' m.data.toList = false) := hid (by unfold rextB; rw [hrb]; rfl)
    have HO : Hid (rextOut key s l up ps at' m.data.toList = (⟨#[]⟩, 0, [], [])) := hid (by unfold rextOut; rw [HBB.out, if_neg (by decide)])
    rw [hrb, if_neg (by decide)] at CO
    rw [HBB.out, HO.out]
    clear hrb
    go_enter Tryd.func28, Tryd.ntmps28
    go_wp2_with (go_at_call 70; rw [← HW0.out]; refine (CO.out _ HB0.out).mono ?_; rintro e w1 ⟨rfl, hb1⟩; refine Hid.out ?_)
    refine hid ?_
    have HB1 := hid (HB0.out.trans (hb1.mono HB0.out.size))
    have HZ1 := hid ((hb1.block _ hz0).trans HZ0.out)
    clear hb1 k0 k1 k2 k3 k4
    obtain ⟨z0, z1, z2, z3, z4⟩ := five_cells HZ1.out
    have f0 := five_thaw HZ1.out 0
    have f1 := five_thaw HZ1.out 1
    have f2 := five_thaw HZ1.out 2
    have f3 := five_thaw HZ1.out 3
    have f4 := five_thaw HZ1.out 4
    go_wp2
    refine bodyPost_ret (v := .tuple #[.agg #[.string ⟨#[]⟩, .int .i64 0, .slice none 0 0, .bool false, .slice none 0 0], .bool false]) (by simp [results, Tryd.results28, go_sem, z0, z1, z2, z3, z4]) rfl ⟨_, _, rfl, ?_, World.ownsRow_nil _ _ _ _, World.ownsRow_nil _ _ _ _, fun j k hj => by cases hj⟩
    exact below_five HB1.out (Nat.le_succ _) _ _ _ _ _
  | true =>
    have hpos := root_words hrb
    have HUP : Hid (up = false → (extOut ps at' m.data.toList).2 = false) := hid (fun h => by subst h; exact down_none hrb at' _)
    rw [hrb, if_pos rfl] at CO
    cases heb : (extOut ps at' m.data.toList).2 with
    | false =>
      have HBB : Hid (rextB key.data.toList s l up ps at' m.data.toList = false) := hid (by unfold rextB; rw [heb]; simp)
      have HO : Hid (rextOut key s l up ps at' m.data.toList = (⟨#[]⟩, 0, [], [])) := hid (by unfold rextOut; rw [HBB.out, if_neg (by decide)])
      rw [HBB.out, HO.out]
      rw [heb] at CE
      clear hrb heb
      generalize (extOut ps at' m.data.toList).1 = L at *
      generalize cntN s l = n0 at *
      go_enter Tryd.func28, Tryd.ntmps28
      go_wp2_with (go_at_call 70; rw [← HW0.out]; refine (CO.out _ HB0.out).mono ?_; rintro e w1 ⟨rfl, hb1⟩; refine Hid.out ?_)
      refine hid ?_
      have HB1 := hid (HB0.out.trans (hb1.mono HB0.out.size))
      have HZ1 := hid ((hb1.block _ hz0).trans HZ0.out)
      have hz1 := hb1.size
      clear hb1 k0 k1 k2 k3 k4
      go_wp2_with (go_at_call 217; refine (CE.out _ _ _ _ _ HB1.out).mono ?_; rintro e w2 ⟨sve, rfl, hb2, hoe⟩; refine Hid.out ?_)
      refine hid ?_
      have HB2 := hid (HB1.out.trans (hb2.mono HB1.out.size))
      have HZ2 := hid ((hb2.block (w.heap.size + 1) (by omega)).trans HZ1.out)
      clear hb2 hoe
      obtain ⟨z0, z1, z2, z3, z4⟩ := five_cells HZ2.out
      have f0 := five_thaw HZ2.out 0
      have f1 := five_thaw HZ2.out 1
      have f2 := five_thaw HZ2.out 2
      have f3 := five_thaw HZ2.out 3
      have f4 := five_thaw HZ2.out 4
      go_wp2
      refine bodyPost_ret (v := .tuple #[.agg #[.string ⟨#[]⟩, .int .i64 0, .slice none 0 0, .bool false, .slice none 0 0], .bool false]) (by simp [results, Tryd.results28, go_sem, z0, z1, z2, z3, z4]) rfl ⟨_, _, rfl, ?_, World.ownsRow_nil _ _ _ _, World.ownsRow_nil _ _ _ _, fun j k hj => by cases hj⟩
      exact below_five HB2.out (Nat.le_succ _) _ _ _ _ _
    | true =>
      have hup : up = true := by
        cases up with
        | true => rfl
        | false => have := HUP.out rfl; rw [heb] at this; cases this
      subst hup
      have HBB : Hid (rextB key.data.toList s l true ps at' m.data.toList = true) := hid (by unfold rextB; rw [hrb, heb]; rfl)
      have HO : Hid (rextOut key s l true ps at' m.data.toList = (key, s, l, (extOut ps at' m.data.toList).1)) := hid (by unfold rextOut; rw [HBB.out, if_pos rfl])
      rw [HBB.out, HO.out]
      rw [heb] at CE
      clear hrb heb HUP
      generalize (extOut ps at' m.data.toList).1 = L at *
      generalize cntN s l = n0 at *
      go_enter Tryd.func28, Tryd.ntmps28
      go_wp2_with (go_at_call 70; rw [← HW0.out]; refine (CO.out _ HB0.out).mono ?_; rintro e w1 ⟨rfl, hb1⟩; refine Hid.out ?_)
      refine hid ?_
      have HB1 := hid (HB0.out.trans (hb1.mono HB0.out.size))
      have HZ1 := hid ((hb1.block _ hz0).trans HZ0.out)
      have HV1 := hid ((hb1.block w.heap.size (by omega)).trans HV0.out)
      have hz1 := hb1.size
      clear hb1 k0 k1 k2 k3 k4
      go_wp2_with (go_at_call 217; refine (CE.out _ _ _ _ _ HB1.out).mono ?_; rintro e w2 ⟨sve, rfl, hb2, hoe⟩; refine Hid.out ?_)
      refine hid ?_
      have HB2 := hid (HB1.out.trans (hb2.mono HB1.out.size))
      have HZ2 := hid ((hb2.block (w.heap.size + 1) (by omega)).trans HZ1.out)
      have HV2 := hid ((hb2.block w.heap.size (by omega)).trans HV1.out)
      have hz2 := hb2.size
      have hz2b : w.heap.size + 1 < w2.heap.size := by omega
      obtain ⟨pe, ce, rfl, _⟩ := texts_of hoe
      have HOE := hid hoe
      clear hb2 hoe
      have k0 : ∀ W : World, Below (w.heap.size + 1) w2 W → W.cell? ⟨w.heap.size, 0, none⟩ = some (.string key) := fun W hW => (five_cells ((hW.block _ (Nat.lt_succ_self _)).trans HV2.out)).1
      have CC := hid (fun W (hW : Below (w.heap.size + 1) w2 W) => kept_calls s n0 l hl hpos _ W (H1.out.on (HB2.out.trans (hW.mono (Nat.le_succ _)))))
      go_wp2
      go_region_held3 (fun w' => Below (w.heap.size + 1) w2 w') (first | with_reducible assumption | exact hB6 | exact Below.drew (Below.refl _ _) | exact below_five hB6 (Nat.le_refl _) _ _ _ _ _) ((go_at_call 206; rw [counter_of]; refine (CC.out _ (by with_reducible assumption)).mono ?_; rintro e w6 ⟨v6, rfl, hb6, ho6⟩; have hB6 : Below (w.heap.size + 1) w2 w6 := Below.trans (by with_reducible assumption) (hb6.mono (by first | omega | (simp; omega))); obtain ⟨p6, c6, rfl, _, _⟩ := row_in_own ho6; have hbo := (hb6.block (w.heap.size + 1) (by first | omega | (simp; omega))).trans HZ2.out; obtain ⟨q0, q1, q2, q3, q4⟩ := five_cells hbo; have f0 := five_thaw hbo 0; have f1 := five_thaw hbo 1; have f2 := five_thaw hbo 2; have f3 := five_thaw hbo 3; have f4 := five_thaw hbo 4))
      rename_i hS
      have HBO := hid hbo
      have HO6 : Hid (w6.ownsRow w2.heap.size 2 1 (.slice p6 l.length c6) l.length (ints l)) := hid ho6
      have HOE6 : Hid (w6.ownsRow w1.heap.size 9 1 (.slice pe L.length ce) L.length (strs L)) := hid (own_below HOE.out.drew hb6)
      have HN1 := hid (show (Value.slice p6 l.length c6).ownBlock ≠ some (w.heap.size + 1) from fun e => by have := (HO6.out.lt _ e).1; omega)
      have HN2 := hid (show (Value.slice pe L.length ce).ownBlock ≠ some (w.heap.size + 1) from fun e => by have := (HOE.out.lt _ e).1; omega)
      have HD : Hid (∀ j k, (Value.slice p6 l.length c6).ownBlock = some j → (Value.slice pe L.length ce).ownBlock = some k → j ≠ k) := hid (fun j k hj hk => by have h1 := (HO6.out.lt j hj).1; have h2 := (HOE.out.lt k hk).2; omega)
      obtain ⟨r0, r1, r2, r3, r4⟩ := five_cells (five_put HBO.out (.string key) (.int .i64 s) (.slice p6 l.length c6) (.bool true) (.slice pe L.length ce))
      clear hbo q0 q1 q2 q3 q4 f0 f1 f2 f3 f4 k0 hb6 hB6 ho6
      go_wp2
      refine bodyPost_ret (v := .tuple #[.agg #[.string key, .int .i64 s, .slice p6 l.length c6, .bool true, .slice pe L.length ce], .bool true]) (by simp [results, Tryd.results28, go_sem, r0, r1, r2, r3, r4]) rfl ⟨_, _, rfl, HB2.out.trans (hS.mono (Nat.le_succ _)), ?_, ?_, HD.out⟩
      · exact own_five (own_raise HO6.out HB2.out.size) HN1.out _ _ _ _ _
      · exact own_five (own_base HOE6.out HB1.out.size) HN2.out _ _ _ _ _
end Go.Proofs.YtnlnfjchnjdfoaaDoor
