/- PowerOn, the program's. -/
import Derived.Test.YtphabggmbdpibaaDoorCounted
import Derived.Test.YtphabggmbdpibaaDoorClCallsD
import Derived.Test.YtphabggmbdpibaaDoorPackRoot
import Derived.Test.YtphabggmbdpibaaDoorPackRead
namespace Go.Proofs.YtphabggmbdpibaaDoor
open Go.RowKit
open Go.Lib (hid)

/-- Does the Root go on. -/
def onB (key : List UInt8) (s : Int) (l : List Int) (up : Bool) (ps : List (List UInt8)) (cut : Int) : Bool := rootB key s l up ps && goesB (cntN s l) (readOut s l).2.1 cut

/-- What PowerOn answers: key, size, words, whether it is up, registers. -/
def onOut (key : ByteArray) (s : Int) (l : List Int) (up : Bool) (ps : List (List UInt8)) (cut : Int) : ByteArray × Int × List Int × Bool × List (List UInt8) :=
  if onB key.data.toList s l up ps cut = true then (key, 1, onW l (cntN s l) cut, decide (4 ≤ cut), if 4 ≤ cut then resets 8 else []) else (⟨#[]⟩, 0, [], false, [])

def OnPost (key : ByteArray) (s : Int) (l : List Int) (up : Bool) (ps : List (List UInt8)) (cut : Int) (w : World) (e : Ending) (w' : World) : Prop :=
  ∃ sv1 sv2, e = .returned (.tuple #[.agg #[.string (onOut key s l up ps cut).1, .int .i64 (onOut key s l up ps cut).2.1, sv1, .bool (onOut key s l up ps cut).2.2.2.1, sv2], .bool (onB key.data.toList s l up ps cut)]) ∧ Below w.heap.size w w'
    ∧ w'.ownsRow w.heap.size 2 1 sv1 (onOut key s l up ps cut).2.2.1.length (ints (onOut key s l up ps cut).2.2.1) ∧ w'.ownsRow w.heap.size 9 1 sv2 (onOut key s l up ps cut).2.2.2.2.length (strs (onOut key s l up ps cut).2.2.2.2)
    ∧ (∀ j k, sv1.ownBlock = some j → sv2.ownBlock = some k → j ≠ k)

/-- What a right Root's words hold. -/
theorem root_stood {key : List UInt8} {s : Int} {l : List Int} {up : Bool} {ps : List (List UInt8)} (h : rootB key s l up ps = true) : s = 1 ∧ StoodOne l (cntN s l) (readOut s l).2.1 ∧ inN (cntN s l) ∧ inN (readOut s l).2.1 := by
  obtain ⟨h1, _, hs⟩ := root_one h
  subst hs
  obtain ⟨x, c, hst, hx, hc⟩ := one_of_read h1
  have hr := one_read hst
  have e1 : cntN 1 l = x := by unfold cntN; rw [hr]; rfl
  have e2 : (readOut 1 l).2.1 = c := by rw [hr]
  rw [e1, e2]
  exact ⟨rfl, hst, hx, hc⟩

set_option maxRecDepth 20000 in
set_option maxHeartbeats 4000000 in
theorem on_impl (key : ByteArray) (s : Int) (l : List Int) (hl : l.length ≤ 1048576) (up : Bool) (ps : List (List UInt8)) (hn : ps.length ≤ 1048576) (cut : Int) (hcn : cut ≤ 9223372036854775807) (a1 a2 : Value) (w : World) (h1 : RowIn w a1 l) (h2 : TextsAt w a2 ps) (hT : Tab w) (hG : 0 < w.heap.size) :
    Calls Tryd.prog 13 #[.agg #[.string key, .int .i64 s, a1, .bool up, a2], .int .i64 cut] w (OnPost key s l up ps cut w) := by
  unfold OnPost
  have H1 := hid h1
  have CO := hid (fun W (hb : Below w.heap.size w W) => openRoot_calls key s l hl up ps hn a1 a2 W (h1.on hb) (h2.on hb) (tab_on hT hG hb) (Nat.lt_of_lt_of_le hG hb.size))
  unfold openV at CO
  obtain ⟨p1, c1, rfl, _, _⟩ := h1
  obtain ⟨p2, c2, rfl, _⟩ := h2
  clear hT
  obtain ⟨W0, hW0⟩ : ∃ W0, W0 = (w.alloc (.cells #[.string key, .int .i64 s, .slice p1 l.length c1, .bool up, .slice p2 ps.length c2] 31)).alloc (.cells #[.string ⟨#[]⟩, .int .i64 0, .slice none 0 0, .bool false, .slice none 0 0] 31) := ⟨_, rfl⟩
  have HB0 : Hid (Below w.heap.size w W0) := hid (by rw [hW0]; exact ((Below.refl _ _).alloc (Nat.le_refl _) _).alloc (by simp) _)
  have HV0 : Hid (W0.heap[w.heap.size]? = some (.cells #[.string key, .int .i64 s, .slice p1 l.length c1, .bool up, .slice p2 ps.length c2] 31)) := hid (by rw [hW0]; exact heap_two_old _ _)
  have HZ0 : Hid (W0.heap[w.heap.size + 1]? = some (.cells #[.string ⟨#[]⟩, .int .i64 0, .slice none 0 0, .bool false, .slice none 0 0] 31)) := hid (by rw [hW0]; exact heap_two_new _ _)
  have hz0 : w.heap.size + 1 < W0.heap.size := by rw [hW0]; simp
  obtain ⟨k0, k1, k2, k3, k4⟩ := five_cells HV0.out
  have HW0 := hid hW0
  clear hW0
  cases hrb : rootB key.data.toList s l up ps with
  | false =>
    have HOB : Hid (onB key.data.toList s l up ps cut = false) := hid (by unfold onB; rw [hrb, Bool.false_and])
    have HO : Hid (onOut key s l up ps cut = (⟨#[]⟩, 0, [], false, [])) := hid (by unfold onOut; rw [HOB.out, if_neg (by decide)])
    rw [hrb, if_neg (by decide)] at CO
    clear hrb
    go_enter Tryd.func13, Tryd.ntmps13
    go_wp2_with (go_at_call 55; rw [← HW0.out]; refine (CO.out _ HB0.out).mono ?_; rintro e w1 ⟨rfl, hb1⟩; refine Hid.out ?_)
    refine hid ?_
    have HB1 := hid (HB0.out.trans (hb1.mono HB0.out.size))
    have HZ1 := hid ((hb1.block _ hz0).trans HZ0.out)
    clear hb1 k0 k1 k2 k3 k4
    obtain ⟨z0, z1, z2, z3, z4⟩ := five_cells HZ1.out
    have f0 := five_thaw HZ1.out 0
    have f1 := five_thaw HZ1.out 1
    have f2 := five_thaw HZ1.out 2
    have f3 := five_thaw HZ1.out 3
    have f4 := five_thaw HZ1.out 4
    go_wp2
    refine bodyPost_ret (v := .tuple #[.agg #[.string ⟨#[]⟩, .int .i64 0, .slice none 0 0, .bool false, .slice none 0 0], .bool false]) (by simp [results, Tryd.results13, go_sem, z0, z1, z2, z3, z4]) rfl ⟨_, .slice none 0 0, by rw [HO.out, HOB.out], below_five HB1.out (Nat.le_succ _) _ _ _ _ _, by rw [HO.out]; exact World.ownsRow_nil _ _ _ _, by rw [HO.out]; exact World.ownsRow_nil _ _ _ _, fun j k h => by cases h⟩
  | true =>
    obtain ⟨hs1, hst, hx, hc⟩ := root_stood hrb
    have HOB : Hid (onB key.data.toList s l up ps cut = goesB (cntN s l) (readOut s l).2.1 cut) := hid (by unfold onB; rw [hrb, Bool.true_and])
    have HO : Hid (onOut key s l up ps cut = if goesB (cntN s l) (readOut s l).2.1 cut = true then (key, 1, onW l (cntN s l) cut, decide (4 ≤ cut), if 4 ≤ cut then resets 8 else []) else (⟨#[]⟩, 0, [], false, [])) := hid (by unfold onOut; rw [HOB.out])
    have HLEN := hid (fun hg => (on_facts (cut := cut) hst hx hc hg).2.1)
    rw [hrb, if_pos rfl] at CO
    subst hs1
    have CC := hid (fun W ha => counted_calls l (cntN 1 l) (readOut 1 l).2.1 cut hst hx hc hcn (.slice p1 l.length c1) W ha)
    unfold CountedPost at CC
    have hxb := hx
    unfold inN at hxb
    obtain ⟨hx0, hx1⟩ := hxb
    clear hrb hst hx hc
    generalize cntN 1 l = x at *
    generalize (readOut 1 l).2.1 = c at *
    go_enter Tryd.func13, Tryd.ntmps13
    go_wp2_with (go_at_call 55; rw [← HW0.out]; refine (CO.out _ HB0.out).mono ?_; rintro e w1 ⟨rfl, hb1⟩; refine Hid.out ?_)
    refine hid ?_
    have HB1 := hid (HB0.out.trans (hb1.mono HB0.out.size))
    have HZ1 := hid ((hb1.block _ hz0).trans HZ0.out)
    have HV1 := hid ((hb1.block w.heap.size (by omega)).trans HV0.out)
    have hz1 := hb1.size
    clear hb1 k0 k1 k2 k3 k4
    cases hg : goesB x c cut with
    | false =>
      rw [hg] at CC HO HOB
      simp only [Bool.false_eq_true, if_false] at CC HO
      clear hg
      go_wp2_with (go_at_call 212; rw [counter_of]; refine (CC.out _ (H1.out.on HB1.out)).mono ?_; rintro e w2 ⟨sv, rfl, hb2, ho2⟩; refine Hid.out ?_)
      refine hid ?_
      have HB2 := hid (HB1.out.trans (hb2.mono HB1.out.size))
      have HZ2 := hid ((hb2.block _ (by omega)).trans HZ1.out)
      have hz2 := hb2.size
      clear hb2 ho2
      obtain ⟨W3, hW3⟩ : ∃ W3, W3 = w2.alloc (.cells #[.int .i64 0, .slice none 0 0, .int .i64 0] 102) := ⟨_, rfl⟩
      have hb3 : Below w2.heap.size w2 W3 := by rw [hW3]; exact (Below.refl _ _).alloc (Nat.le_refl _) _
      have HB3 := hid (HB2.out.trans (hb3.mono HB2.out.size))
      have HZ3 := hid ((hb3.block _ (by omega)).trans HZ2.out)
      obtain ⟨z0, z1, z2, z3, z4⟩ := five_cells HZ3.out
      have f0 := five_thaw HZ3.out 0
      have f1 := five_thaw HZ3.out 1
      have f2 := five_thaw HZ3.out 2
      have f3 := five_thaw HZ3.out 3
      have f4 := five_thaw HZ3.out 4
      have HBF := hid (below_five HB3.out (Nat.le_succ _) (.string ⟨#[]⟩) (.int .i64 0) (.slice none 0 0) (.bool false) (.slice none 0 0))
      rw [hW3] at z0 z1 z2 z3 z4 f0 f1 f2 f3 f4 HBF
      clear hb3 hW3
      go_wp2
      refine bodyPost_ret (v := .tuple #[.agg #[.string ⟨#[]⟩, .int .i64 0, .slice none 0 0, .bool false, .slice none 0 0], .bool false]) (by simp [results, Tryd.results13, go_sem, z0, z1, z2, z3, z4]) rfl ⟨_, .slice none 0 0, by rw [HO.out, HOB.out], HBF.out, by rw [HO.out]; exact World.ownsRow_nil _ _ _ _, by rw [HO.out]; exact World.ownsRow_nil _ _ _ _, fun j k h => by cases h⟩
    | true =>
      have HL6 := hid (HLEN.out hg)
      rw [hg] at CC HO HOB
      simp only [if_true] at CC HO
      clear hg HLEN
      generalize onW l x cut = L at *
      by_cases h4 : 4 ≤ cut
      · rw [show onN x cut = x + 1 by unfold onN; rw [if_pos h4]] at CC
        go_wp2_with (go_at_call 212; rw [counter_of]; refine (CC.out _ (H1.out.on HB1.out)).mono ?_; rintro e w2 ⟨sv, rfl, hb2, ho2⟩; refine Hid.out ?_)
        refine hid ?_
        have HB2 := hid (HB1.out.trans (hb2.mono HB1.out.size))
        have HZ2 := hid ((hb2.block _ (by omega)).trans HZ1.out)
        have HV2 := hid ((hb2.block w.heap.size (by omega)).trans HV1.out)
        have hz2 := hb2.size
        obtain ⟨g, cc, rfl, hg1, hg2⟩ := own_form ho2 (by decide)
        have HO2 := hid ho2
        clear hb2 ho2
        obtain ⟨W3, hW3⟩ : ∃ W3, W3 = (w2.alloc (.cells #[.int .i64 1, .slice (some ⟨g, 0, none⟩) 6 cc, .int .i64 (x + 1)] 102)).alloc (.cells #[.string key, .int .i64 1, .slice (some ⟨g, 0, none⟩) 6 cc, .bool false, .slice none 0 0] 31) := ⟨_, rfl⟩
        have hb3 : Below w2.heap.size w2 W3 := by rw [hW3]; exact ((Below.refl _ _).alloc (Nat.le_refl _) _).alloc (by simp) _
        have HN3 : Hid (W3.heap[w2.heap.size + 1]? = some (.cells #[.string key, .int .i64 1, .slice (some ⟨g, 0, none⟩) 6 cc, .bool false, .slice none 0 0] 31)) := hid (by rw [hW3]; exact heap_two_new _ _)
        have HB3 := hid (HB2.out.trans (hb3.mono HB2.out.size))
        have HZ3 := hid ((hb3.block _ (by omega)).trans HZ2.out)
        have HO3 := hid (own_below HO2.out hb3)
        have hz3 : w2.heap.size + 1 < W3.heap.size := by rw [hW3]; simp
        have HW3 := hid hW3
        have k0 := (five_cells ((((Below.refl w2.heap.size w2).alloc (Nat.le_refl _) (.cells #[.int .i64 1, .slice (some ⟨g, 0, none⟩) 6 cc, .int .i64 (x + 1)] 102)).block w.heap.size (by omega)).trans HV2.out)).1
        clear hb3 hW3
        go_wp2_with (go_at_call 56; rw [← HW3.out]; refine (cboots_calls (.int .i64 1) _ (x + 1) _).mono ?_; rintro e w4 ⟨rfl, hb4⟩; refine Hid.out ?_)
        refine hid ?_
        have HB4 := hid (HB3.out.trans (hb4.mono HB3.out.size))
        have HZ4 := hid ((hb4.block _ (by omega)).trans HZ3.out)
        have HN4 := hid ((hb4.block _ hz3).trans HN3.out)
        have HO4 := hid (own_below HO3.out hb4)
        have hz4 := hb4.size
        clear hb4 k0
        go_wp2_with (go_at_call 56; rw [counter_of]; refine (cboots_calls _ _ x _).mono ?_; rintro e w5 ⟨rfl, hb5⟩; refine Hid.out ?_)
        refine hid ?_
        have HB5 := hid (HB4.out.trans (hb5.mono HB4.out.size))
        have HZ5 := hid ((hb5.block _ (by omega)).trans HZ4.out)
        have HN5 := hid ((hb5.block _ (by omega)).trans HN4.out)
        have HO5 := hid (own_below HO4.out hb5)
        have hz5 := hb5.size
        clear hb5
        go_wp2_with (go_at_call 26; refine (cleared_calls _).mono ?_; rintro e w6 ⟨rv, rfl, hb6, ho6⟩; refine Hid.out ?_)
        refine hid ?_
        have HB6 := hid (HB5.out.trans (hb6.mono HB5.out.size))
        have HZ6 := hid ((hb6.block _ (by omega)).trans HZ5.out)
        have HN6 := hid ((hb6.block _ (by omega)).trans HN5.out)
        have HO6 := hid (own_below HO5.out hb6)
        have hz6 := hb6.size
        obtain ⟨q, d, rfl, _⟩ := texts_of ho6
        have HLR := hid ho6.lt
        have HR6 := hid ho6
        clear hb6 ho6
        obtain ⟨z0, z1, z2, z3, z4⟩ := five_cells HZ6.out
        have f0 := five_thaw HZ6.out 0
        have f1 := five_thaw HZ6.out 1
        have f2 := five_thaw HZ6.out 2
        have f3 := five_thaw HZ6.out 3
        have f4 := five_thaw HZ6.out 4
        obtain ⟨n0, n1, n2, n3, n4⟩ := five_cells HN6.out
        have e3 := five_thaw HN6.out 3
        have e4 := five_thaw HN6.out 4
        go_wp2
        refine bodyPost_ret (v := .tuple #[.agg #[.string key, .int .i64 1, .slice (some ⟨g, 0, none⟩) 6 cc, .bool true, .slice q (resets 8).length d], .bool true]) (by simp [results, Tryd.results13, go_sem, z0, z1, z2, z3, z4]) rfl ⟨_, .slice q (resets 8).length d, by rw [HO.out, HOB.out, decide_eq_true h4], ?_, ?_, ?_, ?_⟩
        · exact below_five ((HB6.out.setCell (p := ⟨w2.heap.size + 1, 3, none⟩) (by show w.heap.size ≤ w2.heap.size + 1; omega) _).setCell (p := ⟨w2.heap.size + 1, 4, none⟩) (by show w.heap.size ≤ w2.heap.size + 1; omega) _) (Nat.le_succ _) _ _ _ _ _
        · rw [HO.out]
          dsimp only
          rw [HL6.out]
          exact own_five (ownsRow_setCell_other (ownsRow_setCell_other (own_raise HO6.out HB1.out.size) (a := ⟨w2.heap.size + 1, 3, none⟩) (fun e => by have e2 : g = w2.heap.size + 1 := Option.some.inj e; omega) _) (a := ⟨w2.heap.size + 1, 4, none⟩) (fun e => by have e2 : g = w2.heap.size + 1 := Option.some.inj e; omega) _) (fun e => by have e2 : g = w.heap.size + 1 := Option.some.inj e; omega) _ _ _ _ _
        · rw [HO.out]
          dsimp only
          rw [if_pos h4]
          exact own_five (ownsRow_setCell_other (ownsRow_setCell_other (own_base HR6.out HB5.out.size) (a := ⟨w2.heap.size + 1, 3, none⟩) (fun e => by have := (HLR.out _ e).1; have e3 : w5.heap.size ≤ w2.heap.size + 1 := this; omega) _) (a := ⟨w2.heap.size + 1, 4, none⟩) (fun e => by have := (HLR.out _ e).1; have e3 : w5.heap.size ≤ w2.heap.size + 1 := this; omega) _) (fun e => by have := (HLR.out _ e).1; omega) _ _ _ _ _
        · intro j k h1 h2
          have e1 : g = j := Option.some.inj h1
          have e2 := (HLR.out _ h2).1
          omega
      · rw [show onN x cut = x by unfold onN; rw [if_neg h4]] at CC
        go_wp2_with (go_at_call 212; rw [counter_of]; refine (CC.out _ (H1.out.on HB1.out)).mono ?_; rintro e w2 ⟨sv, rfl, hb2, ho2⟩; refine Hid.out ?_)
        refine hid ?_
        have HB2 := hid (HB1.out.trans (hb2.mono HB1.out.size))
        have HZ2 := hid ((hb2.block _ (by omega)).trans HZ1.out)
        have HV2 := hid ((hb2.block w.heap.size (by omega)).trans HV1.out)
        have hz2 := hb2.size
        obtain ⟨g, cc, rfl, hg1, hg2⟩ := own_form ho2 (by decide)
        have HO2 := hid ho2
        clear hb2 ho2
        obtain ⟨W3, hW3⟩ : ∃ W3, W3 = (w2.alloc (.cells #[.int .i64 1, .slice (some ⟨g, 0, none⟩) 6 cc, .int .i64 (x)] 102)).alloc (.cells #[.string key, .int .i64 1, .slice (some ⟨g, 0, none⟩) 6 cc, .bool false, .slice none 0 0] 31) := ⟨_, rfl⟩
        have hb3 : Below w2.heap.size w2 W3 := by rw [hW3]; exact ((Below.refl _ _).alloc (Nat.le_refl _) _).alloc (by simp) _
        have HN3 : Hid (W3.heap[w2.heap.size + 1]? = some (.cells #[.string key, .int .i64 1, .slice (some ⟨g, 0, none⟩) 6 cc, .bool false, .slice none 0 0] 31)) := hid (by rw [hW3]; exact heap_two_new _ _)
        have HB3 := hid (HB2.out.trans (hb3.mono HB2.out.size))
        have HZ3 := hid ((hb3.block _ (by omega)).trans HZ2.out)
        have HO3 := hid (own_below HO2.out hb3)
        have hz3 : w2.heap.size + 1 < W3.heap.size := by rw [hW3]; simp
        have HW3 := hid hW3
        have k0 := (five_cells ((((Below.refl w2.heap.size w2).alloc (Nat.le_refl _) (.cells #[.int .i64 1, .slice (some ⟨g, 0, none⟩) 6 cc, .int .i64 (x)] 102)).block w.heap.size (by omega)).trans HV2.out)).1
        clear hb3 hW3
        go_wp2_with (go_at_call 56; rw [← HW3.out]; refine (cboots_calls (.int .i64 1) _ (x) _).mono ?_; rintro e w4 ⟨rfl, hb4⟩; refine Hid.out ?_)
        refine hid ?_
        have HB4 := hid (HB3.out.trans (hb4.mono HB3.out.size))
        have HZ4 := hid ((hb4.block _ (by omega)).trans HZ3.out)
        have HN4 := hid ((hb4.block _ hz3).trans HN3.out)
        have HO4 := hid (own_below HO3.out hb4)
        have hz4 := hb4.size
        clear hb4 k0
        go_wp2_with (go_at_call 56; rw [counter_of]; refine (cboots_calls _ _ x _).mono ?_; rintro e w5 ⟨rfl, hb5⟩; refine Hid.out ?_)
        refine hid ?_
        have HB5 := hid (HB4.out.trans (hb5.mono HB4.out.size))
        have HZ5 := hid ((hb5.block _ (by omega)).trans HZ4.out)
        have HN5 := hid ((hb5.block _ (by omega)).trans HN4.out)
        have HO5 := hid (own_below HO4.out hb5)
        have hz5 := hb5.size
        clear hb5
        obtain ⟨z0, z1, z2, z3, z4⟩ := five_cells HZ5.out
        have f0 := five_thaw HZ5.out 0
        have f1 := five_thaw HZ5.out 1
        have f2 := five_thaw HZ5.out 2
        have f3 := five_thaw HZ5.out 3
        have f4 := five_thaw HZ5.out 4
        obtain ⟨n0, n1, n2, n3, n4⟩ := five_cells HN5.out
        go_wp2
        refine bodyPost_ret (v := .tuple #[.agg #[.string key, .int .i64 1, .slice (some ⟨g, 0, none⟩) 6 cc, .bool false, .slice none 0 0], .bool true]) (by simp [results, Tryd.results13, go_sem, z0, z1, z2, z3, z4]) rfl ⟨_, .slice none 0 0, by rw [HO.out, HOB.out, decide_eq_false (p := 4 ≤ cut) (by omega)], below_five HB5.out (Nat.le_succ _) _ _ _ _ _, ?_, ?_, fun j k _ h => by cases h⟩
        · rw [HO.out]
          dsimp only
          rw [HL6.out]
          exact own_five (own_raise HO5.out HB1.out.size) (fun e => by have e2 : g = w.heap.size + 1 := Option.some.inj e; omega) _ _ _ _ _
        · rw [HO.out]
          dsimp only
          rw [if_neg (show ¬ 4 ≤ cut by omega)]
          exact World.ownsRow_nil _ _ _ _
end Go.Proofs.YtphabggmbdpibaaDoor
